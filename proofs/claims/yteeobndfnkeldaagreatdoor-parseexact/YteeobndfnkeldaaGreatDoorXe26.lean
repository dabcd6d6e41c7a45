/-
  Holds: UScRb UScE UScT.
-/
import Derived.Test.YteeobndfnkeldaaGreatDoorChecked
import Derived.WalkKit
import Derived.Deep.DeepMust
import Derived.Lib.Strings
import Derived.Lib.BufferWrite
import Derived.Deep.OwnRows
import Derived.Deep.RegionHeld3
import Derived.Deep.QuietTactic
import Derived.BigQuiet
import Derived.Deep.AppendLies
import Derived.Lib.ConvBytes
import Derived.Test.YteeobndfnkeldaaGreatDoorXe1
import Derived.Test.YteeobndfnkeldaaGreatDoorXe25
set_option maxRecDepth 100000
set_option maxHeartbeats 4000000
namespace Go.Proofs.YteeobndfnkeldaaGreatDoor
open Go.RowKit
theorem und_bs:Tryz.prog.underlying 196=some (.slice 5):=by kernel_rfl
theorem und_b8:Tryz.prog.underlying 5=some (.int .u8):=by kernel_rfl
theorem und_s9:Tryz.prog.underlying 9=some .string:=by kernel_rfl
theorem add_plain0 (b o j:Nat):(⟨b,o,none⟩:Addr).add j=⟨b,o+j,none⟩:=by unfold Addr.add;split <;> simp_all
theorem nums_text (l:List UInt8):strOfNums (l.map fun c=>(c.toNat:Int))=⟨l.toArray⟩:=by
 unfold strOfNums
 simp [Function.comp_def]
theorem u48 {c:UInt8}:c.toNat=48 ↔ c=48:=⟨fun h=>UInt8.toNat_inj.1 h,fun h=>by rw [h];rfl⟩
theorem trimL_any (l:List UInt8) (hl:l.length≤2097152) (w:World):Cs 161 #[.string (sB l),.string ⟨#[48]⟩] w (.string (sB (l.drop (nz l)))):=by
 by_cases h:l=[]
 · subst h
   show Calls _ _ #[.string ⟨#[]⟩,_] _ fun e w'=>e=.returned (.string ⟨#[]⟩)∧w'=w
   go_enter Tryz.func161,Tryz.ntmps161
   go_wp2
   go_ret
   exact ⟨rfl,rfl⟩
 · have h0:0<l.length:=List.length_pos_iff.2 h
   have T:=trimLeft_any (sB l) (by rw [bl_size];omega) (nz l) (nz_le l) h0 (fun i hi=>u48.2 (nz_in l i (by have:=nz_le l;omega) hi)) (fun hm=>fun z=>nz_at l hm (u48.1 z)) w
   rw [bl_from] at T
   exact T
theorem trimR_any (l:List UInt8) (hl:l.length≤2097152) (w:World):Cs 242 #[.string (sB l),.string ⟨#[48]⟩] w (.string (sB (l.take (trn l)))):=by
 have T:=trimRight48 (sB l) (by rw [bl_size];omega) (trn l) (trn_le l) (fun i hi h=>u48.2 (trn_out l i h hi)) (fun hm=>fun z=>trn_at l hm (u48.1 z)) w
 rw [bl_to] at T
 exact T
theorem bl_empty {l:List UInt8}:(sB l).toList.isEmpty=l.isEmpty:=by rw [list_data,bl_list]
theorem trn_zero {l:List UInt8}:trn l=0 ↔ anz l=false:=by
 rw [anz_trn]
 constructor
 · intro h;exact decide_eq_false (by omega)
 · intro h;have:=of_decide_eq_false h;omega
theorem shorten_any (l : List UInt8) (hl : l.length ≤ 2097152) (w : World) : Calls Tryz.prog 205 #[.string (sB l), .bool false] w fun e w' => e = .returned (.tuple #[.string (sB (shT l)), .bool (anz (l.drop 800))]) ∧ Below w.heap.size w w' := by
  have C := fun (m : List UInt8) (h : m.length ≤ 2097152) W => clone_any (sB m) (by rw [bl_size]; omega) W
  by_cases g : 800 < l.length
  · have g' : (800 : Int) < ((sB l).size : Int) := by rw [bl_size]; omega
    have hb : (sB l).size ≤ 2097152 := hl
    have T1 := fun W => trimR_any (l.drop 800) (by rw [List.length_drop]; omega) W
    have x1 := bl_from l 800
    have x2 := bl_to l 800
    cases q : anz (l.drop 800) with
    | true =>
      have HS : Hid (shT l = l.take 800) := by show _ = _; unfold shT; rw [if_pos q]
      have e1 : (sB ((l.drop 800).take (trn (l.drop 800)))).toList.isEmpty = false := by
        apply empty_false
        rw [bl_size, List.length_take]
        have := anz_trn (l.drop 800)
        rw [q] at this
        have := of_decide_eq_true this.symm
        have := trn_le (l.drop 800)
        omega
      have C1 := fun W => C (l.take 800) (by rw [List.length_take]; omega) W
      rw [HS.out]
      clear q HS C hl g
      generalize sB ((l.drop 800).take (trn (l.drop 800))) = t1 at *
      generalize sB (l.drop 800) = t2 at *
      generalize sB (l.take 800) = t3 at *
      generalize sB l = s at *
      go_enter Tryz.func205, Tryz.ntmps205
      go_wp2_with fail
      refine (T1 _).mono ?_
      rintro e w ⟨rfl, rfl⟩
      go_wp2_with fail
      refine (C1 _).mono ?_
      rintro e w1 ⟨rfl, b1⟩
      go_wp2
      go_ret2
      exact ⟨rfl, b1⟩
    | false =>
      have HS : Hid (shT l = (l.take 800).take (trn (l.take 800))) := by show _ = _; unfold shT; rw [if_neg (by rw [q]; decide)]
      rw [trn_zero.2 q, List.take_zero, show sB [] = ⟨#[]⟩ from rfl] at T1
      have T2 := fun W => trimR_any (l.take 800) (by rw [List.length_take]; omega) W
      have C1 := fun W => C ((l.take 800).take (trn (l.take 800))) (by rw [List.length_take, List.length_take]; omega) W
      rw [HS.out]
      clear q HS C hl g
      generalize sB ((l.take 800).take (trn (l.take 800))) = t1 at *
      generalize sB (l.drop 800) = t2 at *
      generalize sB (l.take 800) = t3 at *
      generalize sB l = s at *
      go_enter Tryz.func205, Tryz.ntmps205
      go_wp2_with fail
      refine (T1 _).mono ?_
      rintro e w ⟨rfl, rfl⟩
      go_wp2_with fail
      refine (T2 _).mono ?_
      rintro e w ⟨rfl, rfl⟩
      go_wp2_with fail
      refine (C1 _).mono ?_
      rintro e w1 ⟨rfl, b1⟩
      go_wp2
      go_ret2
      exact ⟨rfl, b1⟩
  · have g' : ¬ (800 : Int) < ((sB l).size : Int) := by rw [bl_size]; omega
    have e0 : l.drop 800 = [] := List.drop_eq_nil_of_le (by omega)
    have HS : Hid (shT l = l.take (trn l)) := by
      show _ = _
      unfold shT
      rw [e0, if_neg (by decide), List.take_of_length_le (show l.length ≤ 800 by omega)]
    have T2 := fun W => trimR_any l hl W
    have C1 := fun W => C (l.take (trn l)) (by rw [List.length_take]; omega) W
    rw [HS.out, e0, show anz [] = false from rfl]
    clear HS C hl g e0
    generalize sB (l.take (trn l)) = t1 at *
    generalize sB l = s at *
    go_enter Tryz.func205, Tryz.ntmps205
    go_wp2_with fail
    refine (T2 _).mono ?_
    rintro e w ⟨rfl, rfl⟩
    go_wp2_with fail
    refine (C1 _).mono ?_
    rintro e w1 ⟨rfl, b1⟩
    go_wp2
    go_ret2
    exact ⟨rfl, b1⟩
theorem dg_list {l:List UInt8}(h:∀ c ∈ l,isD 10 c=true):DG (sB l):=by
 intro k hk
 have hk':k<l.length:=hk
 have:=h (l[k]'hk') (List.getElem_mem hk')
 rw [isD_ten rfl] at this
 exact of_decide_eq_true this
theorem dmake_any (l:List UInt8) (hl:l.length≤2097152) (hd:∀ c ∈ l,isD 10 c=true) (h0:l ≠ []) (hz:nz l=0) (p:Int) (hp0:-1099511627776≤p) (hp9:p≤1099511627776) (w:World) :
 Cb 165 #[.string (sB l),vI p,.bool false] w (.tuple #[dcV (sB (shT l)) p (anz (l.drop 800)),.nilIface]):=by
 have D:=fun W=>areDig_yes (sB l) (by rw [bl_size];omega) (dg_list hd) W
 have T:=fun W=>trimL_any l hl W
 rw [hz,List.drop_zero] at T
 have S:=fun W=>shorten_any l hl W
 have hE:(sB l).toList.isEmpty=false:=empty_false (by rw [bl_size];exact List.length_pos_iff.2 h0)
 have r1:decide (p < -1099511627776)=false:=decide_eq_false (by omega)
 have r2:decide (1099511627776<p)=false:=decide_eq_false (by omega)
 have hb:(sB l).size≤2097152:=hl
 have wp:wrap64 p=p:=by unfold wrap64;omega
 clear hd hl h0 hz hp0 hp9
 generalize sB (shT l)=s2 at *
 generalize anz (l.drop 800)=c2 at *
 generalize sB l=s at *
 unfold dcV
 go_enter Tryz.func165,Tryz.ntmps165
 go_wp2_with fail
 refine (D _).mono ?_
 rintro e w0 ⟨rfl,rfl⟩
 go_wp2_with fail
 refine (T _).mono ?_
 rintro e w0 ⟨rfl,rfl⟩
 go_wp2_with fail
 refine (S _).mono ?_
 rintro e w1 ⟨rfl,hb⟩
 have hs1:w.heap.size<w1.heap.size:=by have:=hb.size;simp at this;omega
 obtain ⟨hc,hf⟩:(∀ o,w1.cell? ⟨w.heap.size,o,none⟩=(w.alloc (.cells #[.string ⟨#[]⟩,vI 0,.bool false] 41)).cell? ⟨w.heap.size,o,none⟩)∧(∀ o,w1.frozen? ⟨w.heap.size,o,none⟩=(w.alloc (.cells #[.string ⟨#[]⟩,vI 0,.bool false] 41)).frozen? ⟨w.heap.size,o,none⟩) :=
  ⟨fun o=>hb.cell (p:=⟨w.heap.size,o,none⟩) (by simp),fun o=>hb.frozen (p:=⟨w.heap.size,o,none⟩) (by simp)⟩
 go_wp2
 refine bodyPost_ret (v:=.tuple #[.agg #[.string s2,vI p,.bool c2],.nilIface]) (by simp [results,Tryz.results165,go_sem,hc]) rfl ⟨rfl,?_⟩
 exact (((((bz _ _).trans (hb.mono (by simp))).setCell (Nat.le_refl _) _).setCell (Nat.le_refl _) _).setCell (Nat.le_refl _) _)
structure BRow (W:World) (g n:Nat) (F:Nat → Nat):Prop where
 cell:∀ i,i<n → W.cell? ⟨g,i,none⟩=some (.int .u8 (F i:Int))
 fr:∀ i,i<n → W.frozen? ⟨g,i,none⟩=false
def putF (F:Nat → Nat) (i r:Nat):Nat → Nat:=fun j=>if j=i then r else F j
theorem BRow.set {W:World}{g n:Nat}{F:Nat → Nat}(R:BRow W g n F) {i:Nat}(hi:i<n) (r:Nat):BRow (W.setCell ⟨g,i,none⟩ (.int .u8 (r:Int))) g n (putF F i r):=by
 refine ⟨fun j hj=>?_,fun j hj=>?_⟩
 · unfold putF
   by_cases z:j=i
   · rw [if_pos z,z];exact World.cell?_setCell_same W ⟨g,i,none⟩ _ (R.cell i hi)
   · rw [if_neg z,World.cell?_setCell_other W ⟨g,i,none⟩ ⟨g,j,none⟩ _ (by intro h;injection h with _ h _;exact z h.symm)];exact R.cell j hj
 · rw [World.frozen?_setCell];exact R.fr j hj
theorem und_str9b:Tryz.prog.underlying 9=some .string:=by kernel_rfl
theorem und_u8b:Tryz.prog.underlying 5=some (.int .u8):=by kernel_rfl
def lgt (l:List UInt8) (i:Nat):Nat:=(l.getD i 0).toNat
theorem bytes_of (w:World) (l:List UInt8) (hs:l.length≤2097152):∃ W1 C,(Go.convert 9 196 (.string (sB l))).run Tryz.prog w=.ok (.slice (some ⟨w.heap.size,0,none⟩) l.length C) W1∧l.length≤C∧C≤maxLen∧Bl w W1∧BRow W1 w.heap.size l.length (lgt l):=by
 have hL:=Lib.run_convert_string_bytes (P:=Tryz.prog) w 9 196 5 (sB l) und_str9b und_bs und_u8b
 refine ⟨Lib.bytesWorld w 5 (sB l),grownCap w l.length 0 5,hL,grownCap_ge _ _ _ _,grownCap_le_maxLen _ _ _ _ (Nat.le_trans hs (by decide)),⟨rfl,rfl,rfl,by rw [Lib.bytesWorld_size];omega,fun k hk=>Lib.bytesWorld_at_old w 5 (sB l) k hk⟩,?_⟩
 refine ⟨fun i hi=>?_,fun i hi=>?_⟩
 · exact Lib.bytesWorld_cell w 5 (sB l) i hi
 · have q:=Lib.bytesWorld_at_new w 5 (sB l)
   unfold World.frozen?
   rw [q]
   have z:¬ (Lib.bytesCells w 5 (sB l)).size≤i:=by
    have e:(sB l).size=l.length:=rfl
    unfold Lib.bytesCells
    simp [e]
    omega
   simp [z]
theorem bl_append (a b:List UInt8):sB a ++ sB b=sB (a ++ b):=by
 apply ByteArray.ext
 rw [ByteArray.data_append]
 apply Array.toList_inj.1
 rw [Array.toList_append]
 rfl
theorem lgt_in {l:List UInt8}{i:Nat}(h:i<l.length):lgt l i=(l[i]'h).toNat:=by
 unfold lgt
 rw [List.getD_eq_getElem?_getD,List.getElem?_eq_getElem h];rfl
theorem BRow.text {W:World}{g:Nat}{l:List UInt8}{F:Nat → Nat}(h:BRow W g l.length F) (hF:∀ i,i<l.length → F i=lgt l i) (C:Nat):(Go.convert 196 9 (.slice (some ⟨g,0,none⟩) l.length C)).run Tryz.prog W=.ok (.string (sB l)) W:=by
 have:=run_convert_bytes_arg (P:=Tryz.prog) W 196 5 und_bs und_b8 g 0 l.length C (l.map fun c=>(c.toNat:Int)) (by simp) (fun i hi=>by
  have e:(⟨g,0,none⟩:Addr).add i=⟨g,0+i,none⟩:=add_plain0 g 0 i
  have q:=h.cell i hi
  rw [hF i hi,lgt_in hi] at q
  rw [Nat.zero_add,q]
  congr 2
  simp [List.getD_eq_getElem?_getD,hi]) 9 und_s9
 rw [nums_text] at this
 exact this
theorem plain_any (W P:List UInt8) (hl:W.length+P.length≤2097152) (w:World):Cb 164 #[.string (sB W),.string (sB P)] w (.string (sB (plD W P))):=by
 have ap:=bl_append W P
 have hsum:¬ 9223372036854775807<(sB W).size+(sB P).size:=by rw [bl_size,bl_size];omega
 have hlen:(W ++ P).length≤2097152:=by rw [List.length_append];exact hl
 obtain ⟨W1,C,hcv,hC,hC',B1,R1⟩:=bytes_of w (W ++ P) hlen
 have HB1:Hid (Bl w W1):=B1
 have HR1:Hid (BRow W1 w.heap.size (W ++ P).length (lgt (W ++ P))):=R1
 have HP:Hid ((plD W P).length=(W ++ P).length∧∀ i,i<(W ++ P).length → lgt (plD W P) i=(if 48≤lgt (W ++ P) i∧lgt (W ++ P) i≤57 then lgt (W ++ P) i else 48)):=by
  have e:(plD W P).length=(W ++ P).length:=by unfold plD;rw [List.length_map]
  refine ⟨e,fun i hi=>?_⟩
  rw [lgt_in (by rw [e];exact hi),lgt_in hi]
  have:(plD W P)[i]'(by rw [e];exact hi)=pln ((W ++ P)[i]'hi):=by unfold plD;rw [List.getElem_map]
  rw [this]
  unfold pln
  rw [isD_ten rfl]
  by_cases z:48≤((W ++ P)[i]'hi).toNat∧((W ++ P)[i]'hi).toNat≤57
  · rw [if_pos (decide_eq_true z),if_pos z]
  · rw [if_neg (by rw [decide_eq_false z];decide),if_neg z];rfl
 have HT:Hid (∀ W2 F,BRow W2 w.heap.size (W ++ P).length F → (∀ i,i<(W ++ P).length → F i=lgt (plD W P) i) → (Go.convert 196 9 (.slice (some ⟨w.heap.size,0,none⟩) (W ++ P).length C)).run Tryz.prog W2=.ok (.string (sB (plD W P))) W2):=fun W2 F h hF=>by
  have e:=HP.out.1
  rw [← e] at h hF ⊢
  exact h.text hF C
 have hb8:∀ i,lgt (W ++ P) i<256:=fun i=>UInt8.toNat_lt _
 clear B1 R1 hl
 generalize lgt (plD W P)=G at *
 generalize sB (plD W P)=r at *
 generalize lgt (W ++ P)=F0 at *
 generalize (W ++ P).length=n at *
 generalize sB (W ++ P)=u at *
 generalize sB W=s at *
 generalize sB P=t at *
 go_enter Tryz.func164,Tryz.ntmps164
 go_wp2
 go_loopw [14] (fun iv wr=>∃ (k:Nat) (F:Nat → Nat),k≤n∧iv=vI (k:Int)∧Hid (Bl w wr∧BRow wr w.heap.size n F∧(∀ j,j<k → F j=G j)∧(∀ j,k≤j → F j=F0 j))) (fun iv _=>n - (intOf iv).toNat)
 case atStart=>exact ⟨0,F0,Nat.zero_le _,rfl,HB1.out,HR1.out,fun j h=>absurd h (by omega),fun _ _=>rfl⟩
 case round =>
  clear HB1 HR1 hcv
  obtain ⟨k,F,hk,rfl,HK⟩:=hrel
  by_cases c1:k<n
  · have i1:(k:Int)<(n:Int):=by omega
    have i0:(0:Int)≤(k:Int):=by omega
    have hc:=HK.out.2.1.cell k c1
    have hf:=HK.out.2.1.fr k c1
    have e9:F k=F0 k:=HK.out.2.2.2 k (Nat.le_refl _)
    have hG:=HP.out.2 k c1
    have hx8:=hb8 k
    rw [e9] at hc
    obtain ⟨x,hx⟩:∃ x,F0 k=x:=⟨_,rfl⟩
    rw [hx] at hc hG hx8
    have HF:Hid (F k=x):=e9.trans hx
    clear e9 hx hb8
    by_cases z:48≤x∧x≤57
    · rw [if_pos z] at hG
      have z1:¬ (x:Int)<48:=by omega
      have z2:¬ (57:Int)<(x:Int):=by omega
      have HG:Hid (G k=x):=hG
      clear z hG
      go_wp2
      go_roundw
      case rel =>
       refine ⟨k+1,F,by omega,by go_num,HK.out.1,HK.out.2.1,fun j hj=>?_,fun j hj=>HK.out.2.2.2 j (by omega)⟩
       by_cases y:j=k
       · rw [y,HF.out,HG.out]
       · exact HK.out.2.2.1 j (by omega)
      case measure=>simp [intOf];omega
    · rw [if_neg z] at hG
      have HG:Hid (G k=48):=hG
      have HK2:Hid ((∀ j,j<k+1 → putF F k 48 j=G j)∧(∀ j,k+1≤j → putF F k 48 j=F0 j)):=by
       refine ⟨fun j hj=>?_,fun j hj=>?_⟩
       · unfold putF
         by_cases y:j=k
         · rw [if_pos y,y,HG.out]
         · rw [if_neg y];exact HK.out.2.2.1 j (by omega)
       · unfold putF
         rw [if_neg (by omega)]
         exact HK.out.2.2.2 j (by omega)
      have HC:Hid (k<n):=c1
      clear hG HG HF
      by_cases z1:(x:Int)<48
      · clear z
        go_wp2
        go_roundw
        case rel=>exact ⟨k+1,putF F k 48,by omega,by go_num,HK.out.1.setCell (Nat.le_refl _) _,HK.out.2.1.set HC.out 48,HK2.out⟩
        case measure=>simp [intOf];omega
      · have z2:(57:Int)<(x:Int):=by omega
        clear z
        go_wp2
        go_roundw
        case rel=>exact ⟨k+1,putF F k 48,by omega,by go_num,HK.out.1.setCell (Nat.le_refl _) _,HK.out.2.1.set HC.out 48,HK2.out⟩
        case measure=>simp [intOf];omega
  · obtain rfl:k=n:=by omega
    have i1:¬ (k:Int)<(k:Int):=by omega
    have ct:=HT.out wr F HK.out.2.1 (fun i hi=>HK.out.2.2.1 i hi)
    go_wp2
    go_ret
    exact ⟨rfl,HK.out.1⟩
theorem shT_ne {D : List UInt8} (h : D ≠ []) (h0 : nz D = 0) : shT D ≠ [] ∧ (anz (D.drop 800) = false → 0 < trn (D.take 800)) := by
  cases D with
  | nil => exact absurd rfl h
  | cons c r =>
    have hc : c ≠ 48 := fun z => by subst z; rw [nz_yes] at h0; omega
    have k : 0 < trn ((c :: r).take 800) := by
      rw [show (c :: r).take 800 = c :: r.take 799 from rfl]
      show 0 < (if _ then _ else _)
      rw [if_neg (fun z => hc z.2)]; omega
    refine ⟨?_, fun _ => k⟩
    unfold shT
    split
    · rw [show (c :: r).take 800 = c :: r.take 799 from rfl]; simp
    · intro z
      have := congrArg List.length z
      rw [List.length_take] at this
      have := trn_le ((c :: r).take 800)
      simp at *
      omega
theorem NZD : ∀ l : List UInt8, nz (l.drop (nz l)) = 0
  | [] => rfl
  | c :: r => by
    by_cases h : c = 48
    · subst h; rw [nz_yes, List.drop_succ_cons]; exact NZD r
    · rw [nz_no h, List.drop_zero, nz_no h]
end Go.Proofs.YteeobndfnkeldaaGreatDoor
