/-
  Holds: UScP.
-/
import Derived.Test.YtejgpbhionadbaaGreatDoorChecked
import Derived.WalkKit
import Derived.Deep.DeepMust
import Derived.Lib.Strings
import Derived.Lib.BufferWrite
import Derived.Deep.OwnRows
import Derived.Test.YtejgpbhionadbaaGreatDoorXl0
set_option maxRecDepth 100000
set_option maxHeartbeats 4000000
namespace Go.Proofs.YtejgpbhionadbaaGreatDoor
open Go.RowKit
def DG (s:ByteArray):Prop:=∀ k (h:k<s.size),48<=(s[k]'h).toNat/\(s[k]'h).toNat<=57
structure VN (s:ByteArray) (p:Int) (c:Bool):Prop where
 pos:0<s.size
 len:s.size<=800
 dg:DG s
 first:(s[0]'pos).toNat ≠ 48
 last:(s[s.size - 1]'(by omega)).toNat ≠ 48 \/ c=true
 lo:-1099511627776<=p
 hi:p<=1099511627776
def VD (s:ByteArray) (p:Int) (c:Bool):Prop:=(s.size=0/\p=0/\c=false) \/ VN s p c
def dcV (s:ByteArray) (p:Int) (c:Bool):Value:=.agg #[.string s,vI p,.bool c]
theorem dD        (s : ByteArray) : s.toList = s.data.toList := by
  have go : ∀ (n i : Nat) (r : List UInt8), n = s.size - i → ByteArray.toList.loop s i r = r.reverse ++ s.data.toList.drop i := by
    intro n
    induction n with
    | zero =>
      intro i r h
      rw [ByteArray.toList.loop, if_neg (by omega), List.drop_eq_nil_of_le (by simpa using (show s.size ≤ i by omega))]
      simp
    | succ n ih =>
      intro i r h
      have hi : i < s.size := by omega
      have hl : i < s.data.toList.length := by simpa using hi
      rw [ByteArray.toList.loop, if_pos hi, ih (i + 1) _ (by omega), List.drop_eq_getElem_cons hl, List.reverse_cons, List.append_assoc]
      congr 1
      simp only [List.singleton_append, List.cons.injEq, and_true]
      simp [ByteArray.get!, hi]
  show ByteArray.toList.loop s 0 [] = _
  simpa using go s.size 0 [] (by omega)
theorem aI {s:ByteArray}(h:0<s.size):s.toList.isEmpty=false:=by
 rw [dD]
 cases q:s.data.toList with
 | nil=>exact absurd (show s.size=0 by have:=congrArg List.length q;simpa using this) (by omega)
 | cons a r=>rfl
theorem iV        {s : ByteArray} (h : s.size = 0) : s = ⟨#[]⟩ := by
  cases s with
  | mk a =>
    have : a = #[] := Array.eq_empty_of_size_eq_zero h
    rw [this]
theorem pU (s:ByteArray) (hs:s.size<=9223372036854775807) (hd:DG s) (w:World) :
 Cs 155 #[.string s] w (.bool true):=by
 have HD:Hid (DG s):=hd
 clear hd
 go_enter Tryz.func155,Tryz.ntmps155
 go_wp2
 go_loop [6] (fun i=>∃ k:Nat,k<=s.size/\i=vI k) (fun i=>s.size - (intOf i).toNat)
 case atStart=>exact ⟨0,Nat.zero_le _,rfl⟩
 case round =>
  obtain ⟨k,hk,rfl⟩:=hrel
  by_cases hlt:k<s.size
  . obtain ⟨v1,v2⟩:=HD.out k hlt
    have v1':¬ ((s[k]'hlt).toNat:Int)<48:=by omega
    have v2':¬ (57:Int)<((s[k]'hlt).toNat:Int):=by omega
    go_wp2
    go_round
    case rel=>exact ⟨k+1,by omega,by go_num⟩
    case measure=>simp [intOf];omega
  . go_wp2
    go_ret
    exact ⟨rfl,rfl⟩
theorem iJ (s:ByteArray) (hs:s.size<=9223372036854775807) (hd:DG s) (w:World) :
 Cs 120 #[.string s] w (.bool true):=by
 have HD:Hid (DG s):=hd
 clear hd
 go_enter Tryz.func120,Tryz.ntmps120
 go_wp2
 go_loop [3] (fun i=>∃ k:Nat,k<=s.size/\i=vI k) (fun i=>s.size - (intOf i).toNat)
 case atStart=>exact ⟨0,Nat.zero_le _,rfl⟩
 case round =>
  obtain ⟨k,hk,rfl⟩:=hrel
  by_cases hlt:k<s.size
  . obtain ⟨v1,v2⟩:=HD.out k hlt
    have v1':¬ ((s[k]'hlt).toNat:Int)<48:=by omega
    have v2':¬ (57:Int)<((s[k]'hlt).toNat:Int):=by omega
    go_wp2
    go_round
    case rel=>exact ⟨k+1,by omega,by go_num⟩
    case measure=>simp [intOf];omega
  . go_wp2
    go_ret
    exact ⟨rfl,rfl⟩
theorem uS {s:ByteArray}{p:Int}{c:Bool}(h:VD s p c) (w:World) :
 Cb 123 #[dcV s p c] w (vI 0):=by
 unfold dcV
 rcases h with ⟨h1,rfl,rfl⟩ | h
 . obtain rfl:=iV h1
   go_enter Tryz.func123,Tryz.ntmps123
   go_wp2
   go_ret
   exact ⟨rfl,bz _ _⟩
 . have p1:=h.pos
   have hE:=aI p1
   have hl1:s.size - 1<s.size:=by omega
   have AD:=fun W=>iJ s (by have:=h.len;omega) h.dg W
   have l1:=h.len
   have f1:((((s[0]'p1).toNat:Nat):Int) == 48)=false:=beq_eq_false_iff_ne.mpr (by have:=h.first;omega)
   have n1:((s.size:Int) == 0)=false:=beq_eq_false_iff_ne.mpr (by omega)
   have p2:=h.lo
   have p3:=h.hi
   have p2':¬ p < -1099511627776:=by omega
   have p3':¬ 1099511627776<p:=by omega
   have l2:¬ (800:Int)<(s.size:Int):=by omega
   have ix:((s.size:Int) - 1).toNat=s.size - 1:=by omega
   by_cases g1:(s[s.size - 1]'hl1).toNat=48
   . obtain rfl:c=true:=h.last.resolve_left (fun q=>q g1)
     have g2:((((s[s.size - 1]'hl1).toNat:Nat):Int) == 48)=true:=beq_iff_eq.mpr (by omega)
     clear h g1
     go_enter Tryz.func123,Tryz.ntmps123
     go_wp2_with fail
     refine (AD _).mono ?_
     rintro e w1 ⟨rfl,rfl⟩
     go_wp2
     go_ret
     exact ⟨rfl,bz _ _⟩
   . have g2:((((s[s.size - 1]'hl1).toNat:Nat):Int) == 48)=false:=beq_eq_false_iff_ne.mpr (by omega)
     clear h g1
     go_enter Tryz.func123,Tryz.ntmps123
     go_wp2_with fail
     refine (AD _).mono ?_
     rintro e w1 ⟨rfl,rfl⟩
     go_wp2
     go_ret
     exact ⟨rfl,bz _ _⟩
def oK:Value -> Nat | .string s=>s.size | _=>0
theorem yD (s:ByteArray):s.extract 0 s.size=s:=by
 apply ByteArray.ext
 simp
theorem yC {s:ByteArray}{k:Nat}(h:k<=s.size):(s.extract k s.size).size=s.size - k:=by
 rw [ByteArray.size_extract];omega
theorem aIA {s:ByteArray}{k:Nat}:(s.extract k s.size).extract 1 (s.extract k s.size).size=s.extract (k+1) s.size:=by
 apply ByteArray.ext
 rw [ByteArray.data_extract,ByteArray.data_extract,ByteArray.data_extract,Array.extract_extract,ByteArray.size_extract]
 congr 1
 omega
theorem yB {s:ByteArray}{k:Nat}(h:k<s.size):∀ hh,((s.extract k s.size)[0]'hh).toNat=(s[k]'h).toNat:=by
 intro hh
 rw [ByteArray.getElem_extract]
 rfl
theorem aAE (s:ByteArray) (hs:s.size<=9223372036854775807) (m:Nat) (hm:m<=s.size) (h1:∀ i,(h:i<m) -> (s[i]'(by omega)).toNat=48) (h2:(h:m<s.size) -> (s[m]'h).toNat ≠ 48) (w:World) :
 Cs 179 #[.string s,.int .u8 48] w (.string (s.extract m s.size)):=by
 go_enter Tryz.func179,Tryz.ntmps179
 have HH:Hid ((∀ i,(h:i<m) -> (s[i]'(by omega)).toNat=48)/\((h:m<s.size) -> (s[m]'h).toNat ≠ 48)):=⟨h1,h2⟩
 clear h1 h2
 go_wp2
 go_loop [0] (fun v=>∃ k:Nat,v=.string (s.extract k s.size)/\k<=m) (fun v=>oK v)
 case atStart=>exact ⟨0,by rw [yD],Nat.zero_le _⟩
 case round =>
  obtain ⟨k,rfl,hk⟩:=hrel
  have sz:=yC (s:=s) (k:=k) (by omega)
  have cut:=aIA (s:=s) (k:=k)
  by_cases c1:k<m
  . have e0:=yB (s:=s) (k:=k) (by omega)
    rw [HH.out.1 k c1] at e0
    have HS:Hid ((s.extract k s.size).extract 1 (s.extract k s.size).size=s.extract (k+1) s.size/\(s.extract k s.size).size=s.size - k):=⟨cut,sz⟩
    have hpos:0<(s.extract k s.size).size:=by omega
    have hbig:(s.extract k s.size).size<=9223372036854775807:=by omega
    obtain ⟨T2,hT2⟩:∃ T,s.extract (k+1) s.size=T:=⟨_,rfl⟩
    obtain ⟨T,hT⟩:∃ T,s.extract k s.size=T:=⟨_,rfl⟩
    rw [hT2] at cut
    rw [hT] at cut e0 hpos hbig ⊢
    have HT:Hid (s.extract k s.size=T/\s.extract (k+1) s.size=T2):=⟨hT,hT2⟩
    clear sz hT hT2
    go_wp2
    go_round
    case rel=>exact ⟨k+1,by rw [HT.out.2],by omega⟩
    case measure =>
     have a:=HS.out
     rw [HT.out.1,HT.out.2] at a
     show T2.size<T.size
     have b:=yC (s:=s) (k:=k+1) (by omega)
     rw [HT.out.2] at b
     omega
  . obtain rfl:k=m:=by omega
    have HT:Hid (k<=k):=hk
    clear hk c1
    by_cases c2:k<s.size
    . have e0:=yB (s:=s) (k:=k) c2
      have hne:=HH.out.2 c2
      obtain ⟨v,hv⟩:∃ v,(s[k]'c2).toNat=v:=⟨_,rfl⟩
      rw [hv] at e0 hne
      have hne':((v:Int) == 48)=false:=beq_eq_false_iff_ne.mpr (by omega)
      have hpos:0<(s.extract k s.size).size:=by omega
      have hbig:(s.extract k s.size).size<=9223372036854775807:=by omega
      obtain ⟨T,hT⟩:∃ T,s.extract k s.size=T:=⟨_,rfl⟩
      have HTT:Hid (s.extract k s.size=T):=hT
      rw [hT] at e0 hpos hbig ⊢
      clear sz cut hv hne hT
      go_wp2
      go_ret
      exact ⟨by rw [HTT.out];rfl,rfl⟩
    . have hz:(s.extract k s.size).size=0:=by omega
      obtain ⟨T,hT⟩:∃ T,s.extract k s.size=T:=⟨_,rfl⟩
      have HTT:Hid (s.extract k s.size=T):=hT
      rw [hT] at hz ⊢
      clear sz cut hT
      go_wp2
      go_ret
      exact ⟨by rw [HTT.out];rfl,rfl⟩
theorem nE (s:ByteArray) (hs:s.size<=9223372036854775807) (m:Nat) (hm:m<=s.size) (h0:0<s.size) (h1:∀ i,(h:i<m) -> (s[i]'(by omega)).toNat=48) (h2:(h:m<s.size) -> (s[m]'h).toNat ≠ 48) (w:World) :
 Cs 132 #[.string s,.string ⟨#[48]⟩] w (.string (s.extract m s.size)):=by
 have T:=aAE s hs m hm h1 h2
 have hE:s.toList.isEmpty=false:=by
  rw [dD]
  cases q:s.data.toList with
  | nil=>exact absurd (show s.size=0 by have:=congrArg List.length q;simpa using this) (by omega)
  | cons a r=>rfl
 clear h1 h2
 have e48:∀ hh,((⟨#[48]⟩:ByteArray)[0]'hh).toNat=48:=fun _=>rfl
 go_enter Tryz.func132,Tryz.ntmps132
 go_wp2_with fail
 refine (T _).mono ?_
 rintro e wa ⟨rfl,rfl⟩
 go_wp2
 go_ret
 exact ⟨rfl,rfl⟩
theorem zX {s:ByteArray}{k:Nat}(h:k<=s.size):(s.extract 0 k).size=k:=by rw [ByteArray.size_extract];omega
theorem aJg {s:ByteArray}{k:Nat}:(s.extract 0 (k+1)).extract 0 k=s.extract 0 k:=by
 apply ByteArray.ext
 rw [ByteArray.data_extract,ByteArray.data_extract,ByteArray.data_extract,Array.extract_extract]
 congr 1
 omega
theorem aBE {s:ByteArray}{k i:Nat}(hk:k<=s.size) (h:i<k):∀ hh,((s.extract 0 k)[i]'hh).toNat=(s[i]'(by omega)).toNat:=by
 intro hh
 simp [ByteArray.getElem_extract]
theorem aFB (s:ByteArray) (hs:s.size<=9223372036854775807) (b:Nat) (m:Nat) (hm:m<=s.size) (h1:∀ i,m<=i -> (h:i<s.size) -> (s[i]'h).toNat=b) (h2:(h:0<m) -> (s[m - 1]'(by omega)).toNat ≠ b) (w:World) :
 Cs 253 #[.string s,.int .u8 (b:Int)] w (.string (s.extract 0 m)):=by
 have HH:Hid ((∀ i,m<=i -> (h:i<s.size) -> (s[i]'h).toNat=b)/\((h:0<m) -> (s[m - 1]'(by omega)).toNat ≠ b)):=⟨h1,h2⟩
 clear h1 h2
 go_enter Tryz.func253,Tryz.ntmps253
 go_wp2
 go_loop [0] (fun v=>∃ k:Nat,v=.string (s.extract 0 k)/\m<=k/\k<=s.size) (fun v=>oK v)
 case atStart=>exact ⟨s.size,by rw [yD],hm,Nat.le_refl _⟩
 case round =>
  obtain ⟨k,rfl,hmk,hk⟩:=hrel
  have sz:=zX hk
  by_cases c1:m<k
  . obtain ⟨j,rfl⟩:∃ j,k=j+1:=⟨k - 1,by omega⟩
    have e0:=aBE (s:=s) hk (show j<j+1 by omega)
    rw [HH.out.1 j (by omega) (by omega)] at e0
    have cut:=aJg (s:=s) (k:=j)
    have HC:Hid ((s.extract 0 j).size=j):=zX (by omega)
    obtain ⟨T2,hT2⟩:∃ T,s.extract 0 j=T:=⟨_,rfl⟩
    obtain ⟨T,hT⟩:∃ T,s.extract 0 (j+1)=T:=⟨_,rfl⟩
    rw [hT2] at cut
    rw [hT] at sz cut e0 ⊢
    have HT:Hid (s.extract 0 j=T2):=hT2
    have HSZ:Hid (T.size=j+1):=sz
    have hpos:0<T.size:=by omega
    have hbig:T.size<=9223372036854775807:=by omega
    have ix:((T.size:Int) - 1).toNat=j:=by omega
    have ix2:(T.size:Int) - 1=(j:Int):=by omega
    have eb:(((b:Nat):Int) == (b:Int))=true:=beq_iff_eq.mpr rfl
    have hj:j<T.size:=by omega
    have e1:=e0 hj
    have hTj:(T.size:Int)=(j:Int)+1:=by omega
    clear hT hT2 sz
    go_wp2
    go_round
    case rel=>exact ⟨j,by rw [HT.out],by omega,by omega⟩
    case measure =>
     show T2.size<T.size
     have a:=HC.out
     rw [HT.out] at a
     have b:=HSZ.out
     omega
  . obtain rfl:k=m:=by omega
    clear c1 hmk
    by_cases c2:0<k
    . have e0:=aBE (s:=s) hk (show k - 1<k by omega)
      have hne:=HH.out.2 c2
      obtain ⟨v,hv⟩:∃ v,(s[k - 1]'(by omega)).toNat=v:=⟨_,rfl⟩
      rw [hv] at e0 hne
      have hne':((v:Int) == (b:Int))=false:=beq_eq_false_iff_ne.mpr (by omega)
      obtain ⟨T,hT⟩:∃ T,s.extract 0 k=T:=⟨_,rfl⟩
      have HTT:Hid (s.extract 0 k=T):=hT
      rw [hT] at e0 sz ⊢
      have hpos:0<T.size:=by omega
      have hbig:T.size<=9223372036854775807:=by omega
      have ix:((T.size:Int) - 1).toNat=k - 1:=by omega
      have hj:k - 1<T.size:=by omega
      have e1:=e0 hj
      clear hv hne hT
      go_wp2
      go_ret
      exact ⟨by rw [HTT.out];rfl,rfl⟩
    . have hz:(s.extract 0 k).size=0:=by omega
      obtain ⟨T,hT⟩:∃ T,s.extract 0 k=T:=⟨_,rfl⟩
      have HTT:Hid (s.extract 0 k=T):=hT
      rw [hT] at hz ⊢
      clear sz hT
      go_wp2
      go_ret
      exact ⟨by rw [HTT.out];rfl,rfl⟩
theorem aA9 (s:ByteArray) (hs:s.size<=9223372036854775807) (m:Nat) (hm:m<=s.size) (h1:∀ i,m<=i -> (h:i<s.size) -> (s[i]'h).toNat=48) (h2:(h:0<m) -> (s[m - 1]'(by omega)).toNat ≠ 48) (w:World) :
 Cs 221 #[.string s,.string ⟨#[48]⟩] w (.string (s.extract 0 m)):=by
 by_cases h0:s.size=0
 . have hm0:m=0:=by omega
   subst hm0
   obtain rfl:=iV h0
   have e:(⟨#[]⟩:ByteArray).extract 0 0=⟨#[]⟩:=by decide
   rw [e]
   clear h1 h2 e
   go_enter Tryz.func221,Tryz.ntmps221
   go_wp2
   go_ret
   exact ⟨rfl,rfl⟩
 . have T:∀ W,Cs 253 #[.string s,.int .u8 48] W (.string (s.extract 0 m)):=fun W=>aFB s hs 48 m hm h1 h2 W
   have hE:=aI (s:=s) (by omega)
   have e48:∀ hh,((⟨#[48]⟩:ByteArray)[0]'hh).toNat=48:=fun _=>rfl
   clear h1 h2
   go_enter Tryz.func221,Tryz.ntmps221
   go_wp2_with fail
   refine (T _).mono ?_
   rintro e wa ⟨rfl,rfl⟩
   go_wp2
   go_ret
   exact ⟨rfl,rfl⟩
theorem oW:Tryz.prog.underlying 157=some (.slice 5):=by kernel_rfl
theorem aHH:Tryz.prog.underlying 162=some (.pointer 5):=by kernel_rfl
theorem nU:(Tryz.prog.info? 5).map (fun i=>(i.zero,i.size,i.bytes))=some (some (.int .u8 0),1,1):=by kernel_rfl
theorem aB4 (s:ByteArray) (hlim:s.size<=140737488355328) (w:World) :
 Cb 60 #[.string s] w (.string s):=by
 by_cases h0:s.size=0
 . obtain rfl:=iV h0
   go_enter Tryz.func60,Tryz.ntmps60
   go_wp2
   go_ret
   exact ⟨rfl,Below.refl _ _⟩
 . obtain ⟨i0,hi,hz0,hz1,hz2⟩:=info_parts nU
   have hn0:((s.size:Int) == 0)=false:=beq_eq_false_iff_ne.mpr (by omega)
   have hsz1:(Tryz.prog.info? 5).map (·.size)=some 1:=by rw [hi];simp [hz1]
   have hco:Tryz.prog.cellsOf 5=1:=by kernel_rfl
   have hmk:=run_make_row' (P:=Tryz.prog) 157 5 (.int .u8 0) 1 oW nU rfl .i64 .i64 s.size (by omega) (by omega)
   obtain ⟨M,hM⟩:∃ M,M=madeCells #[Value.int .u8 0] s.size:=⟨_,rfl⟩
   have hMs:M.size=s.size:=by rw [hM,size_madeCells]
   rw [<- hM] at hmk
   have hcp:=Lib.run_copy_row_string (P:=Tryz.prog) (w.alloc (.cells M 5)) 157 9 3 5 w.heap.size 0 s.size s.size s M 5 oW hsz1 (heap_alloc_new w _) (Nat.le_refl _) (by omega)
   obtain ⟨Y,hY⟩:∃ Y,Y=(M.toList.take 0 ++ Lib.byteCells s.data.toList ++ M.toList.drop (0+s.size)).toArray:=⟨_,rfl⟩
   rw [<- hY] at hcp
   have hYl:Y.toList=Lib.byteCells s.data.toList:=by
    rw [hY,List.toList_toArray,List.take_zero,List.nil_append,List.drop_of_length_le (by rw [Array.length_toList];omega),List.append_nil]
   have hgY:((w.alloc (.cells M 5)).setRow w.heap.size Y).heap[w.heap.size]?=some (.cells Y 5 (0,0)):=setRow_heap _ _ M _ 5 (0,0) (heap_alloc_new w _)
   have hYs:Y.size=s.size:=by rw [<- Array.length_toList,hYl,Lib.byteCells_length,<- Lib.size_eq]
   have hne:s.data.toList ≠ []:=fun e=>h0 (by rw [Lib.size_eq,e];rfl)
   have hUS:=Lib.run_unsafeString_row (P:=Tryz.prog) ((w.alloc (.cells M 5)).setRow w.heap.size Y) 162 3 9 5 aHH hco w.heap.size Y.size (by unfold World.shape?;rw [hgY]) s.data.toList hne (by rw [<- Lib.size_eq];omega) (by rw [<- Lib.size_eq];omega)
    (fun j x hx=>Lib.cells_of_row hgY Y.size j _ (by rw [List.take_of_length_le (by rw [Array.length_toList];exact Nat.le_refl _),hYl];simp [Lib.byteCells,hx]))
   rw [<- Lib.size_eq] at hUS
   clear hY hM
   go_enter Tryz.func60,Tryz.ntmps60
   go_wp2
   go_ret
   have hb1:Bl w (w.alloc (.cells M 5)):=(Below.refl _ w).alloc (Nat.le_refl _) _
   have hb2:Below w.heap.size (w.alloc (.cells M 5)) ((w.alloc (.cells M 5)).setRow w.heap.size Y):=⟨rfl,rfl,rfl,by simp,fun k hk=>setRow_other _ _ _ _ (by omega)⟩
   exact ⟨rfl,Lib.below_freeze (hb1.trans hb2) (p:=⟨w.heap.size,0,none⟩) (Nat.le_refl _) _⟩
theorem lV (s:ByteArray) (hlim:s.size<=140737488355328) (w:World) :
 Cb 34 #[.string s] w (.string s):=by
 go_enter Tryz.func34,Tryz.ntmps34
 go_wp2_with fail
 refine (aB4 s hlim _).mono ?_
 rintro e w1 ⟨rfl,hb⟩
 go_wp2
 go_ret
 exact ⟨rfl,hb⟩
end Go.Proofs.YtejgpbhionadbaaGreatDoor
