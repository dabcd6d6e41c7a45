/-
  Holds: UCp2 UCoL.
-/
import Derived.Laws.BitsAllLaws
import Derived.Test.YtejgpbhionadbaaGreatDoorChecked
import Derived.Lib.ItoaNum
import Derived.Laws.Externs
import Derived.WalkKit
import Derived.WalkSpells
import Derived.WalkLawsBesides
import Derived.Lib.Mul64
import Derived.Lib.TrailingZeros
import Derived.Deep.OwnRows
import Derived.Laws.CopyOwn
import Derived.BigQuiet
import Derived.Deep.RegionHeld3
import Derived.Deep.LoopGhost
import Derived.Deep.AppendLies
import Derived.Deep.DeepCutAuto
import Derived.Stop.Asserts
import Derived.RowKitTokens
import Derived.Lib.Strings
import Derived.Lib.BufferWrite
import Derived.Lib.ConvBytes
import Derived.Test.YtejgpbhionadbaaGreatDoorRows
import Derived.Test.YtejgpbhionadbaaGreatDoorXl1
import Derived.Test.YtejgpbhionadbaaGreatDoorXl16
set_option maxRecDepth 100000
set_option maxHeartbeats 4000000
namespace Go.Proofs.YtejgpbhionadbaaGreatDoor
open Go.RowKit
theorem aDp (b:Nat) (h1:2<=b) (h2:b<=36) (w:World) :
 Calls Tryz.prog 236 #[vI (b:Int)] w fun e w'=>∃ k P:Nat,e=.returned (.tuple #[vI (k:Int),vU (P:Int)])/\P=b ^ k/\1<=k/\k<=64/\P<B/\w'=w:=by
 go_enter Tryz.func236,Tryz.ntmps236
 go_wp2
 go_loop [4,5] (fun c p=>∃ k P:Nat,c=vI (k:Int)/\p=vU (P:Int)/\Hid (P=b ^ k)/\k<=64/\P<B) (fun c _=>64 - (intOf c).toNat)
 case atStart=>exact ⟨0,1,rfl,rfl,rfl,by omega,by decide⟩
 case round =>
  obtain ⟨k,P,rfl,rfl,HP,hk,hlt⟩:=hrel
  have hk64:k<64:=by
   rcases Nat.lt_or_ge k 64 with z | z
   . exact z
   . exfalso
     have a:2 ^ 64<=2 ^ k:=Nat.pow_le_pow_right (by omega) z
     have c:2 ^ k<=b ^ k:=Nat.pow_le_pow_left h1 k
     have e:B=2 ^ 64:=rfl
     have:=HP.out
     omega
  have HL:Hid (P<B):=hlt
  have hltB:P<18446744073709551616:=hlt
  clear hlt
  by_cases c1:(P:Int)<=18446744073709551615 / (b:Int)
  . have hm:P * b<B:=by
     have a:P<=18446744073709551615 / b:=by
      have z:(18446744073709551615:Int) / (b:Int)=((18446744073709551615 / b:Nat):Int):=by rw [Int.natCast_ediv];rfl
      rw [z] at c1
      exact Int.ofNat_le.mp c1
     have c:=Nat.mul_le_mul_right b a
     have e:=Nat.div_mul_le_self 18446744073709551615 b
     unfold B;omega
    have HM:Hid (P * b<B):=hm
    have wr1:IntKind.u64.wrap ((P:Int) * (b:Int))=((P * b:Nat):Int):=by
     unfold B at hm
     rw [<- Int.natCast_mul,IntKind.wrap_u64];omega
    clear hm
    obtain ⟨Q,hQ⟩:∃ Q,P * b=Q:=⟨_,rfl⟩
    have HQ:Hid (P * b=Q):=hQ
    rw [hQ] at wr1
    clear hQ
    go_wp2
    go_round
    case rel=>exact ⟨k+1,Q,by go_num,rfl,by show Q=b ^ (k+1);rw [Nat.pow_succ,<- HP.out,HQ.out],by omega,by rw [<- HQ.out];exact HM.out⟩
    case measure=>simp [intOf];omega
  . have c1':decide ((P:Int)<=18446744073709551615 / (b:Int))=false:=by simpa using c1
    have hk1:1<=k:=by
     rcases Nat.eq_zero_or_pos k with z | z
     . exfalso
       apply c1
       have e1:P=1:=by rw [HP.out,z,Nat.pow_zero]
       rw [e1,show (18446744073709551615:Int) / (b:Int)=((18446744073709551615 / b:Nat):Int) by rw [Int.natCast_ediv];rfl]
       have:1<=18446744073709551615 / b:=(Nat.le_div_iff_mul_le (by omega)).mpr (by omega)
       omega
     . exact z
    clear c1
    go_wp2
    go_ret2
    exact ⟨k,P,rfl,HP.out,hk1,hk,HL.out,rfl⟩
theorem qI (b:Nat) (h1:2<=b) (h2:b<=36) (w:World) :
 Cs 234 #[vI (b:Int)] w (.bool true):=by
 have h3:decide ((b:Int)<=36)=true:=by simp;omega
 go_enter Tryz.func234,Tryz.ntmps234
 go_wp2
 go_ret
 exact ⟨rfl,rfl⟩
theorem tS (c:Nat) (hc:c<256) (w:World) :
 Cs 264 #[.int .u8 (c:Int)] w (vI (dv c:Int)):=by
 by_cases a:48<=c/\c<=57
 . have e:((dv c:Nat):Int)=(c:Int) - 48:=by unfold dv;rw [if_pos a];omega
   rw [e]
   obtain ⟨a1,a2⟩:=a
   have b1:(48:Int)<=(c:Int):=by omega
   have b2:(c:Int)<=57:=by omega
   clear e
   go_enter Tryz.func264,Tryz.ntmps264
   go_wp2
   go_ret
   exact ⟨rfl,rfl⟩
 . have na:¬ ((48:Int)<=(c:Int)/\(c:Int)<=57):=by omega
   by_cases b:97<=c/\c<=122
   . have e:((dv c:Nat):Int)=(c:Int) - 97+10:=by unfold dv;rw [if_neg a,if_pos b];omega
     rw [e]
     obtain ⟨a1,a2⟩:=b
     have b1:(97:Int)<=(c:Int):=by omega
     have b2:(c:Int)<=122:=by omega
     have b3:¬ (c:Int)<=57:=by omega
     clear e a na
     go_enter Tryz.func264,Tryz.ntmps264
     go_wp2
     go_ret
     exact ⟨rfl,rfl⟩
   . by_cases d:65<=c/\c<=90
     . have e:((dv c:Nat):Int)=(c:Int) - 65+10:=by unfold dv;rw [if_neg a,if_neg b,if_pos d];omega
       rw [e]
       obtain ⟨a1,a2⟩:=d
       have b1:(65:Int)<=(c:Int):=by omega
       have b2:(c:Int)<=90:=by omega
       have b3:¬ (c:Int)<=57:=by omega
       have b4:¬ (97:Int)<=(c:Int):=by omega
       clear e a na b
       go_enter Tryz.func264,Tryz.ntmps264
       go_wp2
       go_ret
       exact ⟨rfl,rfl⟩
     . have e:((dv c:Nat):Int)=36:=by unfold dv;rw [if_neg a,if_neg b,if_neg d];rfl
       rw [e]
       clear e
       go_enter Tryz.func264,Tryz.ntmps264
       go_wp2
       all_goals first | omega | (go_ret;exact ⟨rfl,rfl⟩)
theorem lD         (s : ByteArray) : s.toList = s.data.toList := by
  have go : ∀ (n i : Nat) (r : List UInt8), n = s.size - i → ByteArray.toList.loop s i r = r.reverse ++ s.data.toList.drop i := by
    intro n
    induction n with
    | zero =>
      intro i r h
      rw [ByteArray.toList.loop, if_neg (by omega), List.drop_eq_nil_of_le (by simpa using (show s.size ≤ i by omega))]
      simp
    | succ n ih =>
      intro i r h
      have hi : i < s.size := by omega
      have hl : i < s.data.toList.length := by simpa using hi
      rw [ByteArray.toList.loop, if_pos hi, ih (i + 1) _ (by omega), List.drop_eq_getElem_cons hl, List.reverse_cons, List.append_assoc]
      congr 1
      simp only [List.singleton_append, List.cons.injEq, and_true]
      simp [ByteArray.get!, hi]
  show ByteArray.toList.loop s 0 [] = _
  simpa using go s.size 0 [] (by omega)
theorem wV (s:ByteArray) (hs:s.size<=maxLen) (h0:0<s.size) (b:Nat) (hd:∀ k (h:k<s.size),dv (s[k]'h).toNat<b) (w:World) :
 Cs 235 #[.string s,vI (b:Int)] w (.bool true):=by
 unfold maxLen at hs
 have HD:Hid (∀ k (h:k<s.size),dv (s[k]'h).toNat<b):=hd
 have hE:s.toList.isEmpty=false:=by
  rw [lD]
  cases q:s.data.toList with
  | nil=>exact absurd (show s.size=0 by have:=congrArg List.length q;simpa using this) (by omega)
  | cons a r=>rfl
 clear hd
 go_enter Tryz.func235,Tryz.ntmps235
 go_wp2
 go_loop [8] (fun i=>∃ k:Nat,k<=s.size/\i=vI k) (fun i=>s.size - (intOf i).toNat)
 case atStart=>exact ⟨0,Nat.zero_le _,rfl⟩
 case round =>
  obtain ⟨k,hk,rfl⟩:=hrel
  by_cases hlt:k<s.size
  . have hv:=HD.out k hlt
    have DG:=tS (s[k]'hlt).toNat (UInt8.toNat_lt _) w
    have hv':¬ (b:Int)<=(dv (s[k]'hlt).toNat:Int):=by omega
    generalize dv (s[k]'hlt).toNat=d at *
    go_wp2_with fail
    refine DG.mono ?_
    rintro e w ⟨rfl,rfl⟩
    go_wp2
    go_round
    case rel=>exact ⟨k+1,by omega,by go_num⟩
    case measure=>simp [intOf];omega
  . go_wp2
    go_ret
    exact ⟨rfl,rfl⟩
def sv (b:Nat) (g:Nat -> Nat):Nat -> Nat
 | 0=>0
 | k+1=>sv b g k * b+g k
theorem wN    {b : Nat} {g : Nat → Nat} {n : Nat} (h : ∀ k, k < n → g k < b) : ∀ k, k ≤ n → sv b g k < b ^ k
  | 0, _ => by simp [sv]
  | k + 1, hk => by
    have a := wN    h k (by omega)
    have c := h k (by omega)
    show sv b g k * b + g k < b ^ (k + 1)
    rw [Nat.pow_succ]
    have := Nat.mul_le_mul_right b (show sv b g k + 1 ≤ b ^ k from a)
    rw [Nat.add_mul] at this
    omega
theorem aHC (s:ByteArray) (hs:s.size<=64) (b:Nat) (g:Nat -> Nat) (hg:∀ k (h:k<s.size),dv (s[k]'h).toNat=g k) (hd:∀ k,k<s.size -> g k<b) (hb:b<=36) (hp:b ^ s.size<B) (w:World) :
 Cs 237 #[.string s,vI (b:Int)] w (.tuple #[vU ((b ^ s.size:Nat):Int),vU ((sv b g s.size:Nat):Int)]):=by
 have HP:Hid (b ^ s.size<B/\∀ k,k<s.size -> g k<b):=⟨hp,hd⟩
 have HG:Hid (∀ k (h:k<s.size),dv (s[k]'h).toNat=g k):=hg
 clear hp hd hg
 obtain ⟨P,hP⟩:∃ P,P=b ^ s.size:=⟨_,rfl⟩
 obtain ⟨Q,hQ⟩:∃ Q,Q=sv b g s.size:=⟨_,rfl⟩
 rw [<- hP,<- hQ]
 have HE:Hid (P=b ^ s.size/\Q=sv b g s.size):=⟨hP,hQ⟩
 clear hP hQ
 go_enter Tryz.func237,Tryz.ntmps237
 go_wp2
 go_loop [6,7,11] (fun z y i=>∃ k Z Y:Nat,k<=s.size/\z=vU (Z:Int)/\y=vU (Y:Int)/\i=vI k/\Hid (Z=b ^ k/\Y=sv b g k)) (fun _ _ i=>s.size - (intOf i).toNat)
 case atStart=>exact ⟨0,1,0,Nat.zero_le _,rfl,rfl,rfl,⟨rfl,rfl⟩⟩
 case round =>
  obtain ⟨k,Z,Y,hk,rfl,rfl,rfl,HZ⟩:=hrel
  by_cases hlt:k<s.size
  . have DG:=tS (s[k]'hlt).toNat (UInt8.toNat_lt _) w
    rw [HG.out k hlt] at DG
    have b1:0<b:=by have:=HP.out.2 k hlt;omega
    have hle:b ^ (k+1)<=b ^ s.size:=Nat.pow_le_pow_right b1 (by omega)
    have q1:Z * b=b ^ (k+1):=by rw [HZ.out.1,Nat.pow_succ]
    have q2:Y * b+g k=sv b g (k+1):=by rw [HZ.out.2];rfl
    have q3:=wN (n:=s.size) HP.out.2 (k+1) (by omega)
    have q4:=HP.out.1
    have q5:=HP.out.2 k hlt
    have HN:Hid (Z * b=b ^ (k+1)/\Y * b+g k=sv b g (k+1)):=⟨q1,q2⟩
    have m1:(Z:Int) * (b:Int)=((Z * b:Nat):Int):=by rw [Int.natCast_mul]
    have m2:(Y:Int) * (b:Int)=((Y * b:Nat):Int):=by rw [Int.natCast_mul]
    have r1:Z * b<18446744073709551616:=by unfold B at q4;omega
    have r2:Y * b+g k<18446744073709551616:=by unfold B at q4;omega
    clear q1 q2 q3 q4 hle
    generalize Z * b=Z' at *
    generalize Y * b=Y' at *
    generalize g k=d at *
    go_wp2_with fail
    refine DG.mono ?_
    rintro e w ⟨rfl,rfl⟩
    go_wp2
    go_round
    case rel=>exact ⟨k+1,Z',Y'+d,by omega,by go_num,by go_num,by go_num,HN.out⟩
    case measure=>simp [intOf];omega
  . obtain rfl:k=s.size:=by omega
    have e1:Z=P:=by rw [HZ.out.1,HE.out.1]
    have e2:Y=Q:=by rw [HZ.out.2,HE.out.2]
    subst e1 e2
    go_wp2
    refine bodyPost_ret (v:=.tuple #[vU (Z:Int),vU (Y:Int)]) (by simp [results,Tryz.results237,go_sem]) rfl ⟨rfl,rfl⟩
theorem mS {y n:Nat}:put (fun _=>0) 0 y n=if n=0 then y else 0:=by
 by_cases h:n=0
 . subst h;rw [put_at,if_pos rfl]
 . rw [put_ne h,if_neg h]
theorem tU        (y : Nat) : ∀ n, V (put (fun _ => 0) 0 y) n = if n = 0 then 0 else y
  | 0 => rfl
  | n + 1 => by
    rw [V_succ, tU        y n, mS       ]
    by_cases h : n = 0
    · subst h; simp
    · simp [h]
theorem yI (F:Nat -> Nat):(fun i=>F (0+i))=F:=funext fun i=>by rw [Nat.zero_add]
theorem aHE {D y v n x:Nat}{f F2:Nat -> Nat}(hD:D=put (fun _=>0) 0 y n) (hy:y<B) (hv:v<B) (h:V (fun i=>F2 (0+i)) n+v * B ^ n=V (fun i=>put (fun _=>0) 0 y (0+i)) n+V f n * x):D+v<18446744073709551616:=by
 have e:(18446744073709551616:Nat)=B:=rfl
 rw [e]
 rw [mS] at hD
 by_cases z:n=0
 . subst z
   rw [V_zero,V_zero,V_zero] at h
   simp at h hD
   omega
 . rw [if_neg z] at hD
   omega
theorem aHj {D y v n x:Nat}{f F2:Nat -> Nat}(hD:D=put (fun _=>0) 0 y n) (h:V (fun i=>F2 (0+i)) n+v * B ^ n=V (fun i=>put (fun _=>0) 0 y (0+i)) n+V f n * x):V (put F2 n (D+v)) (n+1)=V f n * x+y:=by
 rw [V_succ,V_put_low (Nat.le_refl _),put_at]
 rw [yI,yI,tU] at h
 rw [mS] at hD
 by_cases z:n=0
 . subst z
   rw [V_zero,V_zero] at *
   simp at h hD ⊢
   omega
 . rw [if_neg z] at h hD
   subst hD
   rw [Nat.zero_add]
   omega
theorem uV {w:World}{ao:Option Addr}{n c b o:Nat}{f:Nat -> Nat}(S:Sl w ao n c b o f) (hn:n<=1000) (x y:Nat) (hx:x<B) (hy:y<B) :
 Calls Tryz.prog 239 #[.slice ao n c,vU (x:Int),vU (y:Int)] w fun e w'=>e=.returned (.slice (some ⟨w.heap.size,0,none⟩) (n+1) (n+1))/\Bl w w' /\
  ∃ F,Row w' w.heap.size (n+1) F/\V F (n+1)=V f n * x+y:=by
 have hmk:=run_make_row' (P:=Tryz.prog) 203 31 (vU 0) 8 bS cH rfl .i64 .i64 (n+1) (by omega) (by omega)
 simp only [Int.natCast_add,Int.natCast_one] at hmk
 have i0:(0:Int)<=(n:Int):=by omega
 have i1:(n:Int)<=(n:Int)+1:=by omega
 have i2:(n:Int)<(n:Int)+1:=by omega
 have HS:Hid (Sl w ao n c b o f):=S
 clear S
 have R0:=(made_row w (n+1))
 have c0:=R0.row.cell (i:=0) (by omega)
 have f0:=R0.row.frozen 0
 have HR0:Hid (Row (w.alloc (.cells (madeCells #[vU 0] (n+1)) 31)) w.heap.size (n+1) (fun _=>0)):=R0
 clear R0
 go_enter Tryz.func239,Tryz.ntmps239
 go_wp2_with fail
 have eU:(w.alloc (.cells (madeCells #[vU 0] (n+1)) 31)).setCell ⟨w.heap.size,0,none⟩ (vU (y:Int))=w.alloc (.cells ((madeCells #[vU 0] (n+1)).setIfInBounds 0 (vU (y:Int))) 31):=by simp [go_sem]
 obtain ⟨U,hV⟩:∃ U,U=w.alloc (.cells ((madeCells #[vU 0] (n+1)).setIfInBounds 0 (vU (y:Int))) 31):=⟨_,rfl⟩
 rw [<- hV]
 have hU:=eU.trans hV.symm
 have RU:Row U w.heap.size (n+1) (put (fun _=>0) 0 y):=by rw [<- hU];exact HR0.out.set 0 hy
 have BU:Bl w U:=by rw [<- hU];exact (bz _ _).setCell (Nat.le_refl _) _
 have cU:=RU.row.cell (i:=n) (by omega)
 obtain ⟨D,hD⟩:∃ D,D=put (fun _=>0) 0 y n:=⟨_,rfl⟩
 have cU':U.cell? ⟨w.heap.size,n,none⟩=some (vU (D:Int)):=by rw [hD];exact cU
 have HD:Hid (D=put (fun _=>0) 0 y n):=hD
 have HU:Hid (Row U w.heap.size (n+1) (put (fun _=>0) 0 y)/\Bl w U):=⟨RU,BU⟩
 clear hU hV eU RU BU cU hD c0 f0 hmk
 go_region_with
  (first
   | (go_at_call 265;refine (nD (g:=w.heap.size) (o:=0) (zo:=some ⟨w.heap.size,0,none⟩) (n:=n) (c:=n+1) HU.out.1.drew (HS.out.below HU.out.2.drew) (fun q=>⟨rfl,Nat.ne_of_lt (HS.out.blk q)⟩) (by omega) (Nat.le_refl _) x hx).mono ?_;rintro e wa ⟨v,F2,rfl,hvB,hg,R2,hfr,hvv⟩;have cz:wa.cell? ⟨w.heap.size,n,none⟩=some (vU (D:Int)):=(by rw [R2.row.cell (i:=n) (by omega),hfr n (Or.inr (by omega)),HD.out]);have fz:=R2.row.frozen n;have HG:Hid (Bl w wa/\Row wa w.heap.size (n+1) F2/\(∀ i,i<0 \/ 0+n<=i -> F2 i=put (fun _=>0) 0 y i)/\V (fun i=>F2 (0+i)) n+v * B ^ n=V (fun i=>put (fun _=>0) 0 y (0+i)) n+V f n * x/\v<B):=⟨aR HU.out.2.drew hg (Nat.le_refl _),R2,hfr,hvv,hvB⟩;have hDv:D+v<18446744073709551616:=(aHE HD.out hy hvB hvv);clear R2 hfr hvv hg hvB))
 all_goals go_wp2
 all_goals go_ret
 all_goals
  obtain ⟨g1,g2,g3,g4,g5⟩:=HG.out
  refine ⟨rfl,g1.setCell (Nat.le_refl _) _,put F2 n (D+v),?_,?_⟩
  . have ew:IntKind.u64.wrap ((D:Int)+(v:Int))=((D+v:Nat):Int):=by rw [IntKind.wrap_u64];omega
    rw [ew]
    exact g2.set n (r:=D+v) hDv
  . exact aHj HD.out g4
theorem lB       (b : Nat) (g : Nat → Nat) (k : Nat) : ∀ n, sv b g (k + n) = sv b g k * b ^ n + sv b (fun j => g (k + j)) n
  | 0 => by simp [sv]
  | n + 1 => by
    show sv b g (k + n) * b + g (k + n) = sv b g k * b ^ (n + 1) + (sv b (fun j => g (k + j)) n * b + g (k + n))
    rw [lB       b g k n, Nat.pow_succ, Nat.add_mul, Nat.mul_assoc]
    omega
theorem aBR {b:Nat}(hb:1<=b) (g:Nat -> Nat) {k n:Nat}(h:k<=n):sv b g k<=sv b g n:=by
 obtain ⟨j,rfl⟩:=Nat.exists_eq_add_of_le h
 rw [lB]
 have:=Nat.mul_le_mul_left (sv b g k) (Nat.pow_pos (n:=j) hb)
 omega
theorem rJ         {b : Nat} {g : Nat → Nat} : ∀ {m : Nat}, (∀ i, i < m → g i = 0) → sv b g m = 0
  | 0, _ => rfl
  | m + 1, h => by
    show sv b g m * b + g m = 0
    rw [rJ         (fun i hi => h i (by omega)), h m (by omega), Nat.zero_mul]
theorem aGh (s:ByteArray) (k:Nat):(s.extract k s.size).size=s.size - k:=by simp
theorem oV {s r:ByteArray}{k n b:Nat}{g:Nat -> Nat}(hr:r=s.extract k s.size) (hk:k+n<=s.size) (hn:n<=64) (hg:∀ k (h:k<s.size),dv (s[k]'h).toNat=g k) (hd:∀ k,k<s.size -> g k<b) (hp:b ^ n<B) (h2:b<=36) (w:World) :
 Cs 237 #[.string (r.extract 0 n),vI (b:Int)] w (.tuple #[vU ((b ^ n:Nat):Int),vU ((sv b (fun j=>g (k+j)) n:Nat):Int)]):=by
 have hs:(r.extract 0 n).size=n:=by rw [hr];simp;omega
 have T:=aHC (r.extract 0 n) (by omega) b (fun j=>g (k+j)) (fun j h=>by
  rw [hs] at h
  show dv ((r.extract 0 n)[j]'_).toNat=g (k+j)
  rw [<- hg (k+j) (by omega)]
  subst hr
  simp [ByteArray.getElem_extract]) (fun j h=>hd (k+j) (by omega)) h2 (by rw [hs];exact hp) w
 rw [hs] at T
 exact T
theorem xN {s r:ByteArray}{k n:Nat}(hr:r=s.extract k s.size):r.extract n r.size=s.extract (k+n) s.size:=by
 subst hr
 simp [ByteArray.extract_extract]
 congr 1
 omega
def aAz:Value -> Nat
 | .string t=>t.size
 | _=>0
theorem aJr {w:World}(s:ByteArray) (hs:s.size<=9223372036854775807) (h0:0<s.size) (b:Nat) (h1:2<=b) (h2:b<=36) (g:Nat -> Nat) (hg:∀ k (h:k<s.size),dv (s[k]'h).toNat=g k) (hd:∀ k,k<s.size -> g k<b)
 (m:Nat) (hm:m<=s.size) (hz:∀ i,(h:i<m) -> (s[i]'(by omega)).toNat=48) (hy:(h:m<s.size) -> (s[m]'h).toNat ≠ 48) (hX:sv b g s.size<B ^ 128) :
 Calls Tryz.prog 197 #[.string s,vI (b:Int)] w fun e w'=>∃ v,e=.returned (.tuple #[v,.nilIface])/\NatV w' v (sv b g s.size)/\Bl w w':=by
 have AR:=wV s (by unfold maxLen;omega) h0 b (fun k h=>by rw [hg k h];exact hd k h) w
 have TL:=nE s hs m hm h0 hz hy w
 have HG:Hid ((∀ k (h:k<s.size),dv (s[k]'h).toNat=g k)/\(∀ k,k<s.size -> g k<b)/\sv b g s.size<B ^ 128):=⟨hg,hd,hX⟩
 have HZ:Hid (sv b g m=0):=rJ fun i hi=>by
  rw [<- hg i (by omega),hz i hi]
  rfl
 clear hg hd hX hz hy
 go_enter Tryz.func197,Tryz.ntmps197
 go_wp2_with fail
 refine (qI b h1 h2 _).mono ?_
 rintro e w ⟨rfl,rfl⟩
 go_wp2_with fail
 refine AR.mono ?_
 rintro e w ⟨rfl,rfl⟩
 go_wp2_with fail
 refine (aDp b h1 h2 _).mono ?_
 rintro e w ⟨ck,P,rfl,hP,hk1,hk2,hPB,rfl⟩
 have HP:Hid (P=b ^ ck/\P<B):=⟨hP,hPB⟩
 clear hP hPB AR
 go_wp2_with fail
 refine TL.mono ?_
 rintro e w ⟨rfl,rfl⟩
 clear TL
 go_wp2
 go_loopw [8,9] (fun z r wr=>∃ k:Nat,k<=s.size/\r=.string (s.extract k s.size)/\Hid (NatV wr z (sv b g k)/\Bl w wr)) (fun _ r _=>aAz r)
 case atStart=>exact ⟨m,hm,rfl,by rw [HZ.out];exact natv_nil _,Below.refl _ _⟩
 case round =>
  obtain ⟨k,hk,rfl,HV⟩:=hrel
  by_cases hlt:k<s.size
  . obtain ⟨r,hr⟩:∃ r,r=s.extract k s.size:=⟨_,rfl⟩
    have hrs:r.size=s.size - k:=by rw [hr];exact aGh s k
    have hE:r.toList.isEmpty=false:=by
     rw [lD]
     cases q:r.data.toList with
     | nil=>exact absurd (show r.size=0 by have:=congrArg List.length q;simpa using this) (by omega)
     | cons a l=>rfl
    rw [<- hr]
    have HR:Hid (r=s.extract k s.size):=hr
    clear hr
    have HRS:Hid (r.size=s.size - k):=hrs
    by_cases c:ck<=r.size
    . have c':(ck:Int)<=(r.size:Int):=by omega
      have c'':¬ (r.size:Int)<(ck:Int):=by omega
      have cs:k+ck<=s.size:=by omega
      clear hrs
      obtain ⟨⟨za,zn,zc,zb,zo,zf,rfl,ZS,zt,zv,zl⟩,hbl⟩:=HV.out
      have SP:=oV (n:=ck) HR.out (by omega) (by omega) HG.out.1 HG.out.2.1 (Nat.lt_of_le_of_lt (Nat.pow_le_pow_right (by omega) (by omega)) (HP.out.1 ▸ HP.out.2)) h2 wr
      have eS:=lB b g k (ck)
      have hlo:=aBR (b:=b) (by omega) g (k:=k+ck) (n:=s.size) (by omega)
      have q1:b ^ (ck)<B:=Nat.lt_of_le_of_lt (Nat.pow_le_pow_right (by omega) (by omega)) (HP.out.1 ▸ HP.out.2)
      have q2:sv b (fun j=>g (k+j)) (ck)<b ^ (ck):=wN (n:=ck) (fun j hj=>HG.out.2.1 (k+j) (by omega)) _ (Nat.le_refl _)
      have HW:Hid (zn<=128/\V zf zn * b ^ (ck)+sv b (fun j=>g (k+j)) (ck)=sv b g (k+ck)/\sv b g (k+ck)<B ^ 128/\b ^ (ck)<B/\sv b (fun j=>g (k+j)) (ck)<B/\Sl wr za zn zc zb zo zf/\Bl w wr):=⟨zl,by rw [zv,eS],Nat.lt_of_le_of_lt hlo HG.out.2.2,q1,Nat.lt_trans q2 q1,ZS,hbl⟩
      clear eS hlo q1 q2 zv zt zl HV ZS hbl
      generalize sv b (fun j=>g (k+j)) (ck)=Y at *
      generalize b ^ (ck)=Z at *
      go_wp2_with fail
      refine SP.mono ?_
      rintro e wr ⟨rfl,rfl⟩
      have PL:=uV HW.out.2.2.2.2.2.1 (by have:=HW.out.1;omega) Z Y HW.out.2.2.2.1 HW.out.2.2.2.2.1
      clear SP
      go_wp2_with fail
      refine PL.mono ?_
      rintro e wx ⟨rfl,hbx,F,RF,hv⟩
      have hzl:=HW.out.1
      obtain ⟨nv,hl⟩:=bG RF (by unfold maxLen;omega) (hv.trans HW.out.2.1) HW.out.2.2.1
      have FT:=hI (aG RF (by unfold maxLen;omega)) hl
      have HN:Hid (NatV wx (.slice (some ⟨wr.heap.size,0,none⟩) (tl F (zn+1)) (tl F (zn+1))) (sv b g (k+ck))/\Bl w wx):=⟨nv,HW.out.2.2.2.2.2.2.trans (hbx.mono HW.out.2.2.2.2.2.2.size)⟩
      clear PL nv hl RF hv hbx
      generalize tl F (zn+1)=tn at *
      go_wp2_with fail
      refine FT.mono ?_
      rintro e wx ⟨rfl,rfl⟩
      go_wp2
      go_roundw
      case rel=>exact ⟨k+ck,by omega,by rw [<- xN HR.out],HN.out⟩
      case measure=>simp [aAz,HR.out];omega
    . have c':¬ (ck:Int)<=(r.size:Int):=by omega
      have c'':(r.size:Int)<(ck:Int):=by omega
      have cs:k+r.size<=s.size:=by omega
      have cp:1<=r.size:=by omega
      clear hrs
      obtain ⟨⟨za,zn,zc,zb,zo,zf,rfl,ZS,zt,zv,zl⟩,hbl⟩:=HV.out
      have SP:=oV (n:=r.size) HR.out (by omega) (by omega) HG.out.1 HG.out.2.1 (Nat.lt_of_le_of_lt (Nat.pow_le_pow_right (by omega) (by omega)) (HP.out.1 ▸ HP.out.2)) h2 wr
      rw [show r.extract 0 r.size=r by simp] at SP
      have eS:=lB b g k (r.size)
      have hlo:=aBR (b:=b) (by omega) g (k:=k+r.size) (n:=s.size) (by omega)
      have q1:b ^ (r.size)<B:=Nat.lt_of_le_of_lt (Nat.pow_le_pow_right (by omega) (by omega)) (HP.out.1 ▸ HP.out.2)
      have q2:sv b (fun j=>g (k+j)) (r.size)<b ^ (r.size):=wN (n:=r.size) (fun j hj=>HG.out.2.1 (k+j) (by omega)) _ (Nat.le_refl _)
      have HW:Hid (zn<=128/\V zf zn * b ^ (r.size)+sv b (fun j=>g (k+j)) (r.size)=sv b g (k+r.size)/\sv b g (k+r.size)<B ^ 128/\b ^ (r.size)<B/\sv b (fun j=>g (k+j)) (r.size)<B/\Sl wr za zn zc zb zo zf/\Bl w wr):=⟨zl,by rw [zv,eS],Nat.lt_of_le_of_lt hlo HG.out.2.2,q1,Nat.lt_trans q2 q1,ZS,hbl⟩
      clear eS hlo q1 q2 zv zt zl HV ZS hbl
      generalize sv b (fun j=>g (k+j)) (r.size)=Y at *
      generalize b ^ (r.size)=Z at *
      go_wp2_with fail
      refine SP.mono ?_
      rintro e wr ⟨rfl,rfl⟩
      have PL:=uV HW.out.2.2.2.2.2.1 (by have:=HW.out.1;omega) Z Y HW.out.2.2.2.1 HW.out.2.2.2.2.1
      clear SP
      go_wp2_with fail
      refine PL.mono ?_
      rintro e wx ⟨rfl,hbx,F,RF,hv⟩
      have hzl:=HW.out.1
      obtain ⟨nv,hl⟩:=bG RF (by unfold maxLen;omega) (hv.trans HW.out.2.1) HW.out.2.2.1
      have FT:=hI (aG RF (by unfold maxLen;omega)) hl
      have HN:Hid (NatV wx (.slice (some ⟨wr.heap.size,0,none⟩) (tl F (zn+1)) (tl F (zn+1))) (sv b g (k+r.size))/\Bl w wx):=⟨nv,HW.out.2.2.2.2.2.2.trans (hbx.mono HW.out.2.2.2.2.2.2.size)⟩
      clear PL nv hl RF hv hbx
      generalize tl F (zn+1)=tn at *
      go_wp2_with fail
      refine FT.mono ?_
      rintro e wx ⟨rfl,rfl⟩
      go_wp2
      go_roundw
      case rel=>exact ⟨k+r.size,by omega,by rw [<- xN HR.out];simp,HN.out⟩
      case measure=>simp [aAz,HR.out];omega
  . obtain rfl:k=s.size:=by omega
    have hE:(s.extract s.size s.size).toList.isEmpty=true:=by
     rw [lD,List.isEmpty_iff]
     exact List.eq_nil_of_length_eq_zero (by simp)
    go_wp2
    refine bodyPost_ret (v:=.tuple #[_,.nilIface]) (by simp [results,Tryz.results197,go_sem]) rfl ⟨_,rfl,HV.out.1,HV.out.2⟩
theorem aKT {z:Int}{g n f T:Nat}{L:Int}(hz:Fz z g n f T L):0<f/\2<=T/\0<n:=by
 rcases hz with ⟨_,_,rfl,rfl,rfl,_⟩ | ⟨_,_,rfl,rfl,rfl,_⟩ <;> decide
end Go.Proofs.YtejgpbhionadbaaGreatDoor
