/-
  Holds: UScS.
-/
import Derived.Test.YtejgpbhionadbaaGreatDoorChecked
import Derived.WalkKit
import Derived.Deep.DeepMust
import Derived.Lib.Strings
import Derived.Lib.BufferWrite
import Derived.Deep.OwnRows
import Derived.Deep.RegionHeld3
import Derived.Deep.QuietTactic
import Derived.BigQuiet
import Derived.Deep.AppendLies
import Derived.Lib.ConvBytes
import Derived.Test.YtejgpbhionadbaaGreatDoorXg44
set_option maxRecDepth 100000
set_option maxHeartbeats 4000000
namespace Go.Proofs.YtejgpbhionadbaaGreatDoor
open Go.RowKit
theorem h0_sg45 {r : List UInt8} (h : h0 r = 45) : sgM r = true ∧ sgA r = 1 := by
  cases r with
  | nil => cases h
  | cons c t =>
    have h' : c = 45 := h
    subst h'
    exact ⟨rfl, sgA_yes (Or.inr rfl)⟩
theorem h0_sg43 {r : List UInt8} (h : h0 r = 43) : sgM r = false ∧ sgA r = 1 := by
  cases r with
  | nil => cases h
  | cons c t =>
    have h' : c = 43 := h
    subst h'
    exact ⟨rfl, sgA_yes (Or.inl rfl)⟩
theorem h0_sg0 {r : List UInt8} (h : h0 r ≠ 45) (h2 : h0 r ≠ 43) : sgM r = false ∧ sgA r = 0 := by
  cases r with
  | nil => exact ⟨rfl, rfl⟩
  | cons c t =>
    have h' : c ≠ 45 := h
    have h2' : c ≠ 43 := h2
    exact ⟨beq_eq_false_iff_ne.mpr h', sgA_no (fun z => z.elim h2' h')⟩
theorem rexp_zero (s:ByteArray) (hs:s.size≤140737488351232) (i:Nat) (hi:i≤s.size+1) (hz:rch 10 false (s.data.toList.drop (i+sgA (s.data.toList.drop i)))=0) (w:World):Cb 55 #[.string s,vI (i:Int)] w (.tuple #[vI 0,vI ((i+sgA (s.data.toList.drop i):Nat):Int),.bool false]):=by
 have A1:=fun W=>at_any s i W
 have sg:=sgA_one (s.data.toList.drop i)
 have hr:=rch_le 10 (s.data.toList.drop (i+sgA (s.data.toList.drop i))) false
 rw [List.length_drop,Array.length_toList,show s.data.size=s.size from rfl] at hr
 have R:=fun W=>rrun_any s hs (i+sgA (s.data.toList.drop i)) (by omega) false false W
 rw [show bs false=10 from rfl] at R
 rw [rdg_nil.2 hz,hz,show sB []=⟨#[]⟩ from rfl] at R
 have HI:Hid (i≤140737488351233):=(by omega:i≤140737488351233)
 obtain ⟨c,hc⟩:∃ c,h0 (s.data.toList.drop i)=c:=⟨_,rfl⟩
 rw [hc] at A1
 by_cases q:c=45
 · have hc2:(c.toNat:Int)=45:=by rw [q];rfl
   have hg:=h0_sg45 (hc.trans q)
   rw [hc2] at A1
   rw [hg.2] at R
   rw [hg.2]
   clear hc sg hr hz hg q hc2
   simp only [Int.natCast_add,Int.natCast_one,Int.natCast_zero,Int.add_zero] at R ⊢
   have hi2:=HI.out
   go_enter Tryz.func55,Tryz.ntmps55
   go_wp2_with fail
   refine (A1 _).mono ?_
   rintro o w ⟨rfl,rfl⟩
   go_wp2_with fail
   refine (R _).mono ?_
   rintro o w1 ⟨rfl,b1⟩
   go_wp2
   refine bodyPost_ret (results_tmp3 rfl _ _ _) rfl ?_
   exact ⟨by first | rfl | simp,b1⟩
 · by_cases q2:c=43
   · have hc2:(c.toNat:Int)=43:=by rw [q2];rfl
     have hg:=h0_sg43 (hc.trans q2)
     rw [hc2] at A1
     rw [hg.2] at R
     rw [hg.2]
     clear hc sg hr hz hg q q2 hc2
     simp only [Int.natCast_add,Int.natCast_one,Int.natCast_zero,Int.add_zero] at R ⊢
     have hi2:=HI.out
     go_enter Tryz.func55,Tryz.ntmps55
     go_wp2_with fail
     refine (A1 _).mono ?_
     rintro o w ⟨rfl,rfl⟩
     go_wp2_with fail
     refine (A1 _).mono ?_
     rintro o w ⟨rfl,rfl⟩
     go_wp2_with fail
     refine (R _).mono ?_
     rintro o w1 ⟨rfl,b1⟩
     go_wp2
     refine bodyPost_ret (results_tmp3 rfl _ _ _) rfl ?_
     exact ⟨by first | rfl | simp,b1⟩
   · have hg:=h0_sg0 (fun z=>q (hc.symm.trans z)) (fun z=>q2 (hc.symm.trans z))
     have n1:((c.toNat:Int) == 45)=false:=u8_ne q
     have n2:((c.toNat:Int) == 43)=false:=u8_ne q2
     generalize (c.toNat:Int)=cc at *
     rw [hg.2] at R
     rw [hg.2]
     clear hc sg hr hz hg q q2
     simp only [Nat.add_zero] at R ⊢
     have hi2:=HI.out
     go_enter Tryz.func55,Tryz.ntmps55
     go_wp2_with fail
     refine (A1 _).mono ?_
     rintro o w ⟨rfl,rfl⟩
     go_wp2_with fail
     refine (A1 _).mono ?_
     rintro o w ⟨rfl,rfl⟩
     go_wp2_with fail
     refine (R _).mono ?_
     rintro o w1 ⟨rfl,b1⟩
     go_wp2
     refine bodyPost_ret (results_tmp3 rfl _ _ _) rfl ?_
     exact ⟨by first | rfl | simp,b1⟩
theorem rexp_pos (s:ByteArray) (hs:s.size≤140737488351232) (i:Nat) (hi:i≤s.size+1) (hz:rch 10 false (s.data.toList.drop (i+sgA (s.data.toList.drop i))) ≠ 0) (w:World):Cb 55 #[.string s,vI (i:Int)] w (.tuple #[vI (exNs (s.data.toList.drop i)),vI ((i+sgA (s.data.toList.drop i)+rch 10 false (s.data.toList.drop (i+sgA (s.data.toList.drop i))):Nat):Int),.bool true]):=by
 have A1:=fun W=>at_any s i W
 have sg:=sgA_one (s.data.toList.drop i)
 have hr:=rch_le 10 (s.data.toList.drop (i+sgA (s.data.toList.drop i))) false
 rw [List.length_drop,Array.length_toList,show s.data.size=s.size from rfl] at hr
 have R:=fun W=>rrun_any s hs (i+sgA (s.data.toList.drop i)) (by omega) false false W
 rw [show bs false=10 from rfl] at R
 have e1:(sB (rdg 10 false (s.data.toList.drop (i+sgA (s.data.toList.drop i))))).toList.isEmpty=false:=empty_false (by rw [bl_size];exact List.length_pos_iff.2 (fun z=>hz (rdg_nil.1 z)))
 have hlen:=rdg_len (b:=10) (s.data.toList.drop (i+sgA (s.data.toList.drop i))) false
 have NB:=fun W=>number_any (sB (rdg 10 false (s.data.toList.drop (i+sgA (s.data.toList.drop i))))) (by rw [bl_size];omega) (fun c hc=>rdg_mem _ _ _ hc) W
 rw [bl_list] at NB
 have hcm:=cnt_le (rdg 10 false (s.data.toList.drop (i+sgA (s.data.toList.drop i)))) 0 (by omega)
 have HX:Hid (exNs (s.data.toList.drop i)=if sgM (s.data.toList.drop i)=true then -(cnt 0 (rdg 10 false (s.data.toList.drop (i+sgA (s.data.toList.drop i)))):Int) else (cnt 0 (rdg 10 false (s.data.toList.drop (i+sgA (s.data.toList.drop i)))):Int)):=by
  show _=_
  unfold exNs;rw [List.drop_drop]
 have HI:Hid (i≤140737488351233):=(by omega:i≤140737488351233)
 obtain ⟨c,hc⟩:∃ c,h0 (s.data.toList.drop i)=c:=⟨_,rfl⟩
 rw [hc] at A1
 by_cases q:c=45
 · have hc2:(c.toNat:Int)=45:=by rw [q];rfl
   have hg:=h0_sg45 (hc.trans q)
   rw [hc2] at A1
   rw [hg.2] at R NB e1 HX hcm
   rw [hg.2]
   rw [hg.1] at HX
   have HX2:Hid (exNs (s.data.toList.drop i) = -(cnt 0 (rdg 10 false (s.data.toList.drop (i+1))):Int)):=by have:=HX.out;rw [if_pos rfl] at this;exact this
   rw [HX2.out]
   clear hc sg hr hz hg HX HX2 hlen q hc2
   generalize cnt 0 (rdg 10 false (s.data.toList.drop (i+1)))=K at *
   generalize sB (rdg 10 false (s.data.toList.drop (i+1)))=T at *
   generalize rch 10 false (s.data.toList.drop (i+1))=n at *
   simp only [Int.natCast_add,Int.natCast_one] at R ⊢
   have hi2:=HI.out
   go_enter Tryz.func55,Tryz.ntmps55
   go_wp2_with fail
   refine (A1 _).mono ?_
   rintro o w ⟨rfl,rfl⟩
   go_wp2_with fail
   refine (R _).mono ?_
   rintro o w1 ⟨rfl,b1⟩
   go_wp2_with fail
   refine (NB _).mono ?_
   rintro o w1 ⟨rfl,rfl⟩
   go_wp2
   refine bodyPost_ret (results_tmp3 rfl _ _ _) rfl ?_
   exact ⟨by first | rfl | simp,b1⟩
 · by_cases q2:c=43
   · have hc2:(c.toNat:Int)=43:=by rw [q2];rfl
     have hg:=h0_sg43 (hc.trans q2)
     rw [hc2] at A1
     rw [hg.2] at R NB e1 HX hcm
     rw [hg.2]
     rw [hg.1] at HX
     have HX2:Hid (exNs (s.data.toList.drop i)=(cnt 0 (rdg 10 false (s.data.toList.drop (i+1))):Int)):=by have:=HX.out;rw [if_neg (by decide)] at this;exact this
     rw [HX2.out]
     clear hc sg hr hz hg HX HX2 hlen q q2 hc2
     generalize cnt 0 (rdg 10 false (s.data.toList.drop (i+1)))=K at *
     generalize sB (rdg 10 false (s.data.toList.drop (i+1)))=T at *
     generalize rch 10 false (s.data.toList.drop (i+1))=n at *
     simp only [Int.natCast_add,Int.natCast_one] at R ⊢
     have hi2:=HI.out
     go_enter Tryz.func55,Tryz.ntmps55
     go_wp2_with fail
     refine (A1 _).mono ?_
     rintro o w ⟨rfl,rfl⟩
     go_wp2_with fail
     refine (A1 _).mono ?_
     rintro o w ⟨rfl,rfl⟩
     go_wp2_with fail
     refine (R _).mono ?_
     rintro o w1 ⟨rfl,b1⟩
     go_wp2_with fail
     refine (NB _).mono ?_
     rintro o w1 ⟨rfl,rfl⟩
     go_wp2
     refine bodyPost_ret (results_tmp3 rfl _ _ _) rfl ?_
     exact ⟨by first | rfl | simp,b1⟩
   · have hg:=h0_sg0 (fun z=>q (hc.symm.trans z)) (fun z=>q2 (hc.symm.trans z))
     have n1:((c.toNat:Int) == 45)=false:=u8_ne q
     have n2:((c.toNat:Int) == 43)=false:=u8_ne q2
     generalize (c.toNat:Int)=cc at *
     rw [hg.2] at R NB e1 HX hcm
     rw [hg.2]
     rw [hg.1] at HX
     have HX2:Hid (exNs (s.data.toList.drop i)=(cnt 0 (rdg 10 false (s.data.toList.drop (i+0))):Int)):=by have:=HX.out;rw [if_neg (by decide)] at this;exact this
     rw [HX2.out]
     clear hc sg hr hz hg HX HX2 hlen q q2
     generalize cnt 0 (rdg 10 false (s.data.toList.drop (i+0)))=K at *
     generalize sB (rdg 10 false (s.data.toList.drop (i+0)))=T at *
     generalize rch 10 false (s.data.toList.drop (i+0))=n at *
     simp only [Nat.add_zero,Int.natCast_add] at R ⊢
     have hi2:=HI.out
     go_enter Tryz.func55,Tryz.ntmps55
     go_wp2_with fail
     refine (A1 _).mono ?_
     rintro o w ⟨rfl,rfl⟩
     go_wp2_with fail
     refine (A1 _).mono ?_
     rintro o w ⟨rfl,rfl⟩
     go_wp2_with fail
     refine (R _).mono ?_
     rintro o w1 ⟨rfl,b1⟩
     go_wp2_with fail
     refine (NB _).mono ?_
     rintro o w1 ⟨rfl,rfl⟩
     go_wp2
     refine bodyPost_ret (results_tmp3 rfl _ _ _) rfl ?_
     exact ⟨by first | rfl | simp,b1⟩
def rmV (i:Nat):Option (List UInt8 × List UInt8 × Nat) → Value
 | none=>.tuple #[.string ⟨#[]⟩,.string ⟨#[]⟩,vI (i:Int),.bool false]
 | some (W,P,n)=>.tuple #[.string (sB W),.string (sB P),vI ((i+n:Nat):Int),.bool true]
theorem results_tmp4 {fn:Func}{t u v x:Tmp}(h:fn.results=#[.tmp t,.tmp u,.tmp v,.tmp x]) (tmps:Array Value) (P:Program) (w:World) :
 (results fn tmps).run P w=.ok (.tuple #[tmps.getD t undef,tmps.getD u undef,tmps.getD v undef,tmps.getD x undef]) w:=by
 simp [results,h]
theorem h0_dot {l : List UInt8} : h0 l = 46 ↔ hdC l = 46 := by
  cases l with
  | nil => exact ⟨fun h => absurd h (by decide), fun h => absurd h (by decide)⟩
  | cons c r =>
    constructor
    · intro h
      have h' : c = 46 := h
      rw [h']; rfl
    · intro h
      exact UInt8.toNat_inj.1 h
theorem ne_rdg {b:Nat}{j:Bool}{l:List UInt8}(h:rch b j l ≠ 0):(sB (rdg b j l)).toList.isEmpty=false:=empty_false (by rw [bl_size];exact List.length_pos_iff.2 (fun z=>h (rdg_nil.1 z)))
theorem rmant_any (s:ByteArray) (hs:s.size≤140737488351232) (i:Nat) (hi:i≤s.size+2) (x:Bool) (w:World):Cb 54 #[.string s,vI (i:Int),.bool x] w (rmV i (mnt (bs x) x (s.data.toList.drop i))):=by
 have R:=fun W=>rrun_any s hs i hi x x W
 have hr:=rch_le (bs x) (s.data.toList.drop i) x
 have hll:s.data.toList.length=s.size:=rfl
 rw [List.length_drop,hll] at hr
 have A1:=fun W=>at_any s (i+rch (bs x) x (s.data.toList.drop i)) W
 have dd:(s.data.toList.drop i).drop (rch (bs x) x (s.data.toList.drop i))=s.data.toList.drop (i+rch (bs x) x (s.data.toList.drop i)):=List.drop_drop
 have HI:Hid (i≤140737488351234∧rch (bs x) x (s.data.toList.drop i)≤140737488351232):=⟨by omega,by omega⟩
 by_cases q:hdC (s.data.toList.drop (i+rch (bs x) x (s.data.toList.drop i)))=46
 · have hc:h0 (s.data.toList.drop (i+rch (bs x) x (s.data.toList.drop i)))=46:=h0_dot.2 q
   rw [hc,show ((46:UInt8).toNat:Int)=46 from rfl] at A1
   have hlt:i+rch (bs x) x (s.data.toList.drop i)<s.size:=by
    rcases Nat.lt_or_ge (i+rch (bs x) x (s.data.toList.drop i)) s.size with z | z
    · exact z
    · rw [drop_end s (by omega)] at q;cases q
   have R2:=fun W=>rrun_any s hs (i+rch (bs x) x (s.data.toList.drop i)+1) (by omega) x false W
   have hr2:=rch_le (bs x) (s.data.toList.drop (i+rch (bs x) x (s.data.toList.drop i)+1)) false
   rw [List.length_drop,hll] at hr2
   have dd2:(s.data.toList.drop i).drop (rch (bs x) x (s.data.toList.drop i)+1)=s.data.toList.drop (i+rch (bs x) x (s.data.toList.drop i)+1):=by rw [List.drop_drop];rfl
   have HV:Hid (mnt (bs x) x (s.data.toList.drop i)=if rch (bs x) x (s.data.toList.drop i)+rch (bs x) false (s.data.toList.drop (i+rch (bs x) x (s.data.toList.drop i)+1))=0 then none else some (rdg (bs x) x (s.data.toList.drop i),rdg (bs x) false (s.data.toList.drop (i+rch (bs x) x (s.data.toList.drop i)+1)),rch (bs x) x (s.data.toList.drop i)+1+rch (bs x) false (s.data.toList.drop (i+rch (bs x) x (s.data.toList.drop i)+1)))):=by
    show _=_
    unfold mnt;rw [dd,dd2,if_pos q]
   rw [HV.out]
   have HI2:Hid (rch (bs x) false (s.data.toList.drop (i+rch (bs x) x (s.data.toList.drop i)+1))≤140737488351232):=(by omega:rch (bs x) false (s.data.toList.drop (i+rch (bs x) x (s.data.toList.drop i)+1))≤140737488351232)
   clear dd dd2 HV q hc hr hr2 hlt
   have E1:=fun h=>ne_rdg (b:=bs x) (j:=x) (l:=s.data.toList.drop i) h
   have E2:=fun h=>ne_rdg (b:=bs x) (j:=false) (l:=s.data.toList.drop (i+rch (bs x) x (s.data.toList.drop i)+1)) h
   have Z1:rch (bs x) x (s.data.toList.drop i)=0 → rdg (bs x) x (s.data.toList.drop i)=[]:=fun z=>rdg_nil.2 z
   have Z2:rch (bs x) false (s.data.toList.drop (i+rch (bs x) x (s.data.toList.drop i)+1))=0 → rdg (bs x) false (s.data.toList.drop (i+rch (bs x) x (s.data.toList.drop i)+1))=[]:=fun z=>rdg_nil.2 z
   generalize rdg (bs x) false (s.data.toList.drop (i+rch (bs x) x (s.data.toList.drop i)+1))=P at *
   generalize rch (bs x) false (s.data.toList.drop (i+rch (bs x) x (s.data.toList.drop i)+1))=m at *
   generalize rdg (bs x) x (s.data.toList.drop i)=W at *
   generalize rch (bs x) x (s.data.toList.drop i)=n at *
   simp only [Int.natCast_add,Int.natCast_one] at R A1 R2
   have hi2:=HI.out.1
   have hn2:=HI.out.2
   have hm2:=HI2.out
   clear hi hll HI HI2
   by_cases zn:n=0
   · have hW:=Z1 zn
     rw [hW,show sB []=⟨#[]⟩ from rfl] at R
     rw [hW]
     clear E1 Z1 hW W
     by_cases zm:m=0
     · rw [if_pos (by omega)]
       have hP:=Z2 zm
       rw [hP,show sB []=⟨#[]⟩ from rfl] at R2
       clear E2 Z2 hP P
       subst zn
       subst zm
       simp only [Int.natCast_zero,Int.add_zero] at R A1 R2
       show Calls _ _ _ _ fun e w'=>e=.returned (.tuple #[.string ⟨#[]⟩,.string ⟨#[]⟩,vI (i:Int),.bool false])∧_
       go_enter Tryz.func54,Tryz.ntmps54
       go_wp2_with fail
       refine (R _).mono ?_
       rintro o w1 ⟨rfl,b1⟩
       have B1:Hid (Bl w w1):=b1
       clear b1
       go_wp2_with fail
       refine (A1 _).mono ?_
       rintro o w1 ⟨rfl,rfl⟩
       go_wp2_with fail
       refine (R2 _).mono ?_
       rintro o w2 ⟨rfl,b2⟩
       have B2:Hid (Bl w w2):=B1.out.trans (b2.mono B1.out.size)
       clear b2
       go_wp2
       refine bodyPost_ret (results_tmp4 rfl _ _ _) rfl ?_
       exact ⟨by first | rfl | (simp;done) | (simp;omega),B2.out⟩
     · rw [if_neg (by omega)]
       have e2:=E2 zm
       clear E2 Z2
       subst zn
       simp only [Int.natCast_zero,Int.add_zero] at R A1 R2
       show Calls _ _ _ _ fun e w'=>e=.returned (.tuple #[.string ⟨#[]⟩,.string (sB P),vI ((i+(0+1+m):Nat):Int),.bool true])∧_
       generalize sB P=t at *
       go_enter Tryz.func54,Tryz.ntmps54
       go_wp2_with fail
       refine (R _).mono ?_
       rintro o w1 ⟨rfl,b1⟩
       have B1:Hid (Bl w w1):=b1
       clear b1
       go_wp2_with fail
       refine (A1 _).mono ?_
       rintro o w1 ⟨rfl,rfl⟩
       go_wp2_with fail
       refine (R2 _).mono ?_
       rintro o w2 ⟨rfl,b2⟩
       have B2:Hid (Bl w w2):=B1.out.trans (b2.mono B1.out.size)
       clear b2
       go_wp2
       refine bodyPost_ret (results_tmp4 rfl _ _ _) rfl ?_
       exact ⟨by first | rfl | (simp;done) | (simp;omega),B2.out⟩
   · have e1:=E1 zn
     rw [if_neg (by omega)]
     clear E1 Z1 E2 Z2
     show Calls _ _ _ _ fun e w'=>e=.returned (.tuple #[.string (sB W),.string (sB P),vI ((i+(n+1+m):Nat):Int),.bool true])∧_
     generalize sB P=t at *
     generalize sB W=u at *
     clear zn
     go_enter Tryz.func54,Tryz.ntmps54
     go_wp2_with fail
     refine (R _).mono ?_
     rintro o w1 ⟨rfl,b1⟩
     have B1:Hid (Bl w w1):=b1
     clear b1
     go_wp2_with fail
     refine (A1 _).mono ?_
     rintro o w1 ⟨rfl,rfl⟩
     go_wp2_with fail
     refine (R2 _).mono ?_
     rintro o w2 ⟨rfl,b2⟩
     have B2:Hid (Bl w w2):=B1.out.trans (b2.mono B1.out.size)
     clear b2
     go_wp2
     refine bodyPost_ret (results_tmp4 rfl _ _ _) rfl ?_
     exact ⟨by first | rfl | (simp;done) | (simp;omega),B2.out⟩
 · have hc:h0 (s.data.toList.drop (i+rch (bs x) x (s.data.toList.drop i))) ≠ 46:=fun z=>q (h0_dot.1 z)
   have n46:=u8_ne hc
   have HV:Hid (mnt (bs x) x (s.data.toList.drop i)=if rch (bs x) x (s.data.toList.drop i)=0 then none else some (rdg (bs x) x (s.data.toList.drop i),[],rch (bs x) x (s.data.toList.drop i))):=by
    show _=_
    unfold mnt;rw [dd,if_neg q]
   rw [HV.out]
   clear dd HV q hc hr
   have E1:=fun h=>ne_rdg (b:=bs x) (j:=x) (l:=s.data.toList.drop i) h
   have Z1:rch (bs x) x (s.data.toList.drop i)=0 → rdg (bs x) x (s.data.toList.drop i)=[]:=fun z=>rdg_nil.2 z
   generalize ((h0 (s.data.toList.drop (i+rch (bs x) x (s.data.toList.drop i)))).toNat:Int)=cc at *
   have n47:(cc == 46)=false:=n46
   generalize rdg (bs x) x (s.data.toList.drop i)=W at *
   generalize rch (bs x) x (s.data.toList.drop i)=n at *
   simp only [Int.natCast_add] at R A1
   have hi2:=HI.out.1
   have hn2:=HI.out.2
   clear hi hll HI n46
   by_cases zn:n=0
   · have hW:=Z1 zn
     rw [hW,show sB []=⟨#[]⟩ from rfl] at R
     rw [hW,if_pos zn]
     clear E1 Z1 hW W
     subst zn
     simp only [Int.natCast_zero,Int.add_zero] at R A1
     show Calls _ _ _ _ fun e w'=>e=.returned (.tuple #[.string ⟨#[]⟩,.string ⟨#[]⟩,vI (i:Int),.bool false])∧_
     go_enter Tryz.func54,Tryz.ntmps54
     go_wp2_with fail
     refine (R _).mono ?_
     rintro o w1 ⟨rfl,b1⟩
     have B1:Hid (Bl w w1):=b1
     clear b1
     go_wp2_with fail
     refine (A1 _).mono ?_
     rintro o w1 ⟨rfl,rfl⟩
     go_wp2
     refine bodyPost_ret (results_tmp4 rfl _ _ _) rfl ?_
     exact ⟨by first | rfl | (simp;done) | (simp;omega),B1.out⟩
   · have e1:=E1 zn
     rw [if_neg zn]
     clear E1 Z1
     show Calls _ _ _ _ fun e w'=>e=.returned (.tuple #[.string (sB W),.string ⟨#[]⟩,vI ((i+n:Nat):Int),.bool true])∧_
     generalize sB W=u at *
     clear zn
     go_enter Tryz.func54,Tryz.ntmps54
     go_wp2_with fail
     refine (R _).mono ?_
     rintro o w1 ⟨rfl,b1⟩
     have B1:Hid (Bl w w1):=b1
     clear b1
     go_wp2_with fail
     refine (A1 _).mono ?_
     rintro o w1 ⟨rfl,rfl⟩
     go_wp2
     refine bodyPost_ret (results_tmp4 rfl _ _ _) rfl ?_
     exact ⟨by first | rfl | (simp;done) | (simp;omega),B1.out⟩
end Go.Proofs.YtejgpbhionadbaaGreatDoor
