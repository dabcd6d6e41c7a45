/-
  Holds: PsN PsQ PsT.
-/
import Derived.Test.YteeobndfnkeldaaGreatDoorChecked
import Derived.WalkKit
import Derived.Deep.DeepMust
import Derived.Lib.Strings
import Derived.Lib.BufferWrite
import Derived.Deep.OwnRows
import Derived.Deep.RegionHeld3
import Derived.Deep.QuietTactic
import Derived.BigQuiet
import Derived.Deep.AppendLies
import Derived.Lib.ConvBytes
import Derived.Test.YteeobndfnkeldaaGreatDoorShelf
import Derived.Test.YteeobndfnkeldaaGreatDoorRows
import Derived.WalkSpells
import Derived.WalkLawsBesides
import Derived.Lib.Mul64
import Derived.Lib.TrailingZeros
import Derived.Lib.ItoaNum
import Derived.Laws.CopyOwn
import Derived.Deep.LoopGhost
import Derived.Deep.DeepCutAuto
import Derived.Stop.Asserts
import Derived.RowKitTokens
import Derived.Test.YteeobndfnkeldaaGreatDoorXe11
import Derived.Test.YteeobndfnkeldaaGreatDoorXe32
import Derived.Test.YteeobndfnkeldaaGreatDoorXe33
set_option maxRecDepth 100000
set_option maxHeartbeats 4000000
namespace Go.Proofs.YteeobndfnkeldaaGreatDoor
def POk (P:Pt):Prop :=
 (P.kind=1∧VD (sB P.dd) P.dp P.dc) ∨
 (P.kind=2∧P.mant<18446744073709551616 ∧ -1099511627776≤P.exp∧P.exp≤1099511627776∧(P.cut=true → 1152921504606846976≤P.mant)) ∨
 P.kind=3 ∨ (P.kind=4∧P.neg=false)
theorem av_low : ∀ (l : List UInt8), (∀ c ∈ l, isD 16 c = true) → ∀ a, a * 16 ^ l.length ≤ av 16 a l
  | [], _, a => by rw [List.length_nil, Nat.pow_zero, Nat.mul_one]; exact Nat.le_refl _
  | c :: r, h, a => by
    have hc : dv c.toNat < 16 := of_decide_eq_true (h c (by simp))
    have ih := av_low r (fun x hx => h x (by simp [hx])) (a * 16 + dv c.toNat)
    rw [av_cons, avs_yes (by omega), List.length_cons, Nat.pow_succ]
    have e2 : a * (16 ^ r.length * 16) = a * 16 * 16 ^ r.length := by
      rw [Nat.mul_comm (16 ^ r.length) 16, ← Nat.mul_assoc]
    have : a * 16 * 16 ^ r.length ≤ (a * 16 + dv c.toNat) * 16 ^ r.length := Nat.mul_le_mul_right _ (by omega)
    omega
theorem hx_ok {W P:List UInt8}(h:∀ c ∈ W ++ P,isD 16 c=true) (e:Int):POk (hxPt W P e):=by
 right;left
 unfold hxPt
 show (2:Int)=2∧hxM (W ++ P)<_∧_≤hxE W P e∧hxE W P e≤_∧(hxC (W ++ P)=true → _≤hxM (W ++ P))
 have hE:-1099511627776≤hxE W P e∧hxE W P e≤1099511627776:=by
  unfold hxE
  split
  · omega
  · exact ctI_in _
 generalize W ++ P=a at *
 have sub:∀ c ∈ (a.take (hxK a)).drop (nz a),isD 16 c=true:=fun c hc=>h c (List.mem_of_mem_take (List.mem_of_mem_drop hc))
 have len:((a.take (hxK a)).drop (nz a)).length=hxK a - nz a:=by
  rw [List.length_drop,List.length_take]
  unfold hxK
  omega
 have k1:hxK a - nz a≤16:=by unfold hxK;omega
 refine ⟨rfl,?_,hE.1,hE.2,?_⟩
 · have q:=av_lt _ sub 0
   have p:16 ^ ((a.take (hxK a)).drop (nz a)).length≤16 ^ 16:=Nat.pow_le_pow_right (by decide) (by omega)
   have e16:(16:Nat) ^ 16=18446744073709551616:=by decide
   unfold hxM
   omega
 · intro hc
   have hl:nz a+16<a.length:=by
    apply Classical.byContradiction
    intro n
    have:hxK a=a.length:=by unfold hxK;omega
    unfold hxC at hc
    rw [this,List.drop_eq_nil_of_le (Nat.le_refl _)] at hc
    exact absurd hc (by decide)
   have hk:hxK a=nz a+16:=by unfold hxK;omega
   have first:=nz_at a (by omega)
   unfold hxM
   revert sub len
   rw [hk]
   have e:(a.take (nz a+16)).drop (nz a)=a[nz a]'(by omega) :: (a.take (nz a+16)).drop (nz a+1):=by
    rw [List.drop_eq_getElem_cons (by rw [List.length_take];omega),List.getElem_take]
   rw [e]
   intro sub len
   have c16:dv (a[nz a]'(by omega)).toNat<16:=of_decide_eq_true (sub _ (by simp))
   have c0:dv (a[nz a]'(by omega)).toNat ≠ 0:=by
    intro z
    apply first
    have:(a[nz a]'(by omega)).toNat=48:=by
     revert z
     generalize (a[nz a]'(by omega)).toNat=t
     unfold dv
     split <;> (try split) <;> (try split) <;> omega
    exact UInt8.toNat_inj.1 this
   rw [av_cons,avs_yes (by omega)]
   have l15:((a.take (nz a+16)).drop (nz a+1)).length=15:=by rw [List.length_cons] at len;omega
   have q:=av_low ((a.take (nz a+16)).drop (nz a+1)) (fun c hc=>sub c (by simp [hc])) (0 * 16+dv (a[nz a]'(by omega)).toNat)
   rw [l15] at q
   have e15:(16:Nat) ^ 15=1152921504606846976:=by decide
   rw [e15] at q
   omega
theorem any_ok {sg:Bool}{r:List UInt8}{P:Pt}{n:Nat}(h:kAny sg r=some (P,n)) (g:Bool) (hg:sg=false → g=false):POk { P with neg:=g }:=by
 unfold kAny at h
 split at h
 · rename_i x hx
   obtain rfl:=Option.some.inj h
   unfold kInf at hx
   split at hx
   · obtain ⟨rfl,_⟩:=Prod.mk.inj (Option.some.inj hx)
     exact .inr (.inr (.inl rfl))
   · split at hx
     · obtain ⟨rfl,_⟩:=Prod.mk.inj (Option.some.inj hx)
       exact .inr (.inr (.inl rfl))
     · cases hx
 · split at h
   · rename_i x hx
     obtain rfl:=Option.some.inj h
     unfold kNan at hx
     split at hx
     · rename_i q
       obtain ⟨rfl,_⟩:=Prod.mk.inj (Option.some.inj hx)
       exact .inr (.inr (.inr ⟨rfl,hg q.1⟩))
     · cases hx
   · split at h
     · rename_i x hx
       obtain rfl:=Option.some.inj h
       unfold kHex at hx
       split at hx
       · split at hx
         · cases hx
         · rename_i W Q m hm
           split at hx
           · cases hx
           · obtain ⟨rfl,_⟩:=Prod.mk.inj (Option.some.inj hx)
             have h:=hx_ok (mnt_mem hm) (e:=by assumption)
             rcases h with ⟨h,_⟩ | h | h | ⟨h,_⟩
             · exact absurd (show (2:Int)=1 from h) (by decide)
             · exact .inr (.inl h)
             · exact absurd (show (2:Int)=3 from h) (by decide)
             · exact absurd (show (2:Int)=4 from h) (by decide)
       · cases hx
     · unfold kDec at h
       split at h
       · cases h
       · split at h
         · obtain ⟨rfl,_⟩:=Prod.mk.inj (Option.some.inj h)
           exact .inl ⟨rfl,de_valid _ _ _⟩
         · obtain ⟨rfl,_⟩:=Prod.mk.inj (Option.some.inj h)
           exact .inl ⟨rfl,de_valid _ _ _⟩
theorem sg_none {l : List UInt8} (h : decide (0 < sgA l) = false) : sgM l = false := by
  rw [decide_eq_false_iff_not] at h
  match l, h with
  | [], _ => rfl
  | c :: r, h =>
    have q : ¬ (c = 43 ∨ c = 45) := fun q => h (by show 0 < (if _ then _ else _); rw [if_pos q]; decide)
    show (c == 45) = false
    exact beq_eq_false_iff_ne.mpr fun e => q (.inr e)
theorem pfx_ok {l:List UInt8}{P:Pt}{n:Nat}(h:pfx l=some (P,n)):POk P:=by
 unfold pfx at h
 split at h
 · cases h
 · rename_i p m hk
   obtain ⟨rfl,_⟩:=Prod.mk.inj (Option.some.inj h)
   exact any_ok hk _ sg_none
theorem scn_ok {l:List UInt8}{P:Pt}(h:scn l=some P):POk P:=by
 unfold scn at h
 split at h
 · cases h
 · rename_i p n hp
   split at h
   · obtain rfl:=Option.some.inj h
     exact pfx_ok hp
   · cases h
theorem hx_sure {z:Int}{g n f T:Nat}{L:Int}(hz:Fz z g n f T L) {m:Nat}{e:Int}{c:Bool}(h:c=true → 1152921504606846976≤m):hxA f T L m e c=some (rdA f T L m 1 e c):=by
 unfold hxA
 rw [if_neg]
 rintro ⟨q,k,_⟩
 have f52:f≤52:=by rcases hz with ⟨_,_,_,rfl,_⟩ | ⟨_,_,_,rfl,_⟩ <;> decide
 have a:=h q
 have l60:60≤ln m:=by
  apply Classical.byContradiction
  intro n
  have b:=ln_lt m
  have b2:2 ^ ln m≤2 ^ 60:=Nat.pow_le_pow_right (by decide) (by omega)
  have e60:(2:Nat) ^ 60=1152921504606846976:=by decide
  omega
 unfold dpD at k
 omega
def ofP (g f T:Nat) (L:Int) (P:Pt):Nat × Bool :=
 if P.kind=4 then (T * 2 ^ f+2 ^ (f - 1),false) else if P.kind=3 then (sgd g P.neg (T * 2 ^ f),false)
 else if P.kind=2 then (sgd g P.neg (rdA f T L P.mant 1 P.exp P.cut).1,(rdA f T L P.mant 1 P.exp P.cut).2)
 else (sgd g P.neg (nrX f T L (sB P.dd) P.dp P.dc).1,(nrX f T L (sB P.dd) P.dp P.dc).2)
theorem nrX_le {f T:Nat}(hT:0<T) {L:Int}{d:ByteArray}{p:Int}{c:Bool}:(nrX f T L d p c).1≤T * 2 ^ f∧((nrX f T L d p c).2=true ↔ (nrX f T L d p c).1=T * 2 ^ f):=by
 unfold nrX
 split
 · have:0<T * 2 ^ f:=Nat.mul_pos hT (Nat.two_pow_pos f)
   exact ⟨Nat.zero_le _,⟨fun h=>absurd h (by decide),fun h=>absurd h (by show (0:Nat) ≠ _;omega)⟩⟩
 · exact rdA_end hT
def Stp (b:Nat) (R:List UInt8):Prop:=R=[] ∨ ∃ c r,R=c :: r∧isD b c=false∧c ≠ 95
theorem rch_app {b : Nat} {R : List UInt8} (hR : Stp b R) : ∀ (A : List UInt8) (j : Bool), (∀ c ∈ A, isD b c = true) → rch b j (A ++ R) = A.length ∧ rdg b j (A ++ R) = A
  | [], j, _ => by
    rcases hR with rfl | ⟨c, r, rfl, h, n⟩
    · exact ⟨rfl, rfl⟩
    · exact ⟨rch_bad h fun q => n q.1, rdg_bad h fun q => n q.1⟩
  | c :: A, j, h => by
    have hc := h c (by simp)
    obtain ⟨a, d⟩ := rch_app hR A true fun x hx => h x (by simp [hx])
    refine ⟨?_, ?_⟩
    · show rch b j (c :: (A ++ R)) = _
      rw [rch_digit hc, a]
      rfl
    · show rdg b j (c :: (A ++ R)) = _
      rw [rdg_digit hc, d]
theorem dig_ten {c:UInt8}(h:isD 10 c=true):dv c.toNat=c.toNat - 48∧48≤c.toNat∧c.toNat≤57:=by
 have h':dv c.toNat<10:=of_decide_eq_true h
 revert h'
 generalize c.toNat=t
 unfold dv
 split
 · intro _
   omega
 · split
   · intro _
     omega
   · split
     · intro _
       omega
     · intro _
       omega
theorem cnt_av : ∀ (l : List UInt8) (a : Nat), (∀ c ∈ l, isD 10 c = true) → av 10 a l ≤ 1099511627776 → cnt a l = av 10 a l
  | [], _, _, _ => rfl
  | c :: r, a, h, hl => by
    obtain ⟨e, e1, e2⟩ := dig_ten (h c (by simp))
    have s : avs 10 a c = a * 10 + (c.toNat - 48) := by rw [avs_yes (by omega), e]
    rw [av_cons, s] at hl ⊢
    have g := av_ge (b := 10) (by decide) r (a * 10 + (c.toNat - 48))
    rw [cnt_cons, show cns a c = a * 10 + (c.toNat - 48) from by unfold cns; omega]
    exact cnt_av r _ (fun x hx => h x (by simp [hx])) hl
theorem exn_app {L : UInt8} (hL : sml L = L) (neg : Bool) {e : Nat} (he : e ≤ 5000) : exn L.toNat (L :: ((if neg then [45] else []) ++ fl 10 e)) = some (if neg then -(e : Int) else (e : Int), 1 + (if neg then 1 else 0) + (fl 10 e).length) := by
  have dg := fl_digit (b := 10) (by decide) (by decide) e
  obtain ⟨r1, r2⟩ := rch_app (b := 10) (R := []) (.inl rfl) (fl 10 e) false dg
  rw [List.append_nil] at r1 r2
  have p := fl_pos 10 e
  have c := cnt_av (fl 10 e) 0 dg (by rw [av_fl (by decide) (by decide)]; omega)
  rw [av_fl (by decide) (by decide)] at c
  show (if (sml L).toNat = L.toNat then _ else _) = _
  rw [hL, if_pos rfl]
  cases neg with
  | true =>
    have s1 : sgA ([45] ++ fl 10 e) = 1 := rfl
    have s2 : sgM ([45] ++ fl 10 e) = true := rfl
    have d1 : ([45] ++ fl 10 e).drop 1 = fl 10 e := rfl
    simp only [if_true]
    rw [s1, d1, r1, if_neg (by omega)]
    unfold exNs
    rw [s1, s2, d1, r2, c, if_pos rfl]
  | false =>
    have hd : ∃ x t, fl 10 e = x :: t := by
      cases h : fl 10 e with
      | nil => rw [h] at p; exact absurd p (by decide)
      | cons x t => exact ⟨x, t, rfl⟩
    obtain ⟨x, t, hx⟩ := hd
    obtain ⟨_, x1, x2⟩ := dig_ten (dg x (by rw [hx]; simp))
    have n43 : ¬ (x = 43 ∨ x = 45) := by
      rintro (q | q) <;> rw [q] at x1 <;> exact absurd x1 (by decide)
    have s1 : sgA ([] ++ fl 10 e) = 0 := by
      rw [List.nil_append, hx]
      show (if _ then _ else _) = _
      rw [if_neg n43]
    have s2 : sgM ([] ++ fl 10 e) = false := by
      rw [List.nil_append, hx]
      exact beq_eq_false_iff_ne.mpr fun q => n43 (.inr q)
    have d1 : ([] ++ fl 10 e).drop 0 = fl 10 e := rfl
    simp only [Bool.false_eq_true, if_false]
    rw [s1, d1, r1, if_neg (by omega)]
    unfold exNs
    rw [s1, s2, d1, r2, c, if_neg (by decide)]
def txD (D:List UInt8) (neg:Bool) (e:Nat):List UInt8:=48 :: 46 :: (D ++ 101 :: ((if neg then [45] else []) ++ fl 10 e))
theorem txt_scn {D:List UInt8}(dg:∀ c ∈ D,isD 10 c=true) (neg:Bool) {e:Nat}(he:e≤5000) :
 scn (txD D neg e)=some (dePt [48] D (if neg then -(e:Int) else (e:Int))):=by
 have st:Stp 10 (101 :: ((if neg then [45] else []) ++ fl 10 e)):=.inr ⟨_,_,rfl,by decide,by decide⟩
 obtain ⟨r1,r2⟩:=rch_app st D false dg
 have ex:=exn_app (L:=101) (by decide) neg he
 rw [Nat.add_assoc] at ex
 have hR:((if neg then [45] else []) ++ fl 10 e).length=(if neg then 1 else 0)+(fl 10 e).length:=by rw [List.length_append];cases neg <;> rfl
 unfold txD
 generalize (if neg then -(e:Int) else (e:Int))=E at *
 generalize (if neg then [45] else []) ++ fl 10 e=R at *
 generalize (if neg then 1 else 0)+(fl 10 e).length=k at *
 have st2:Stp 10 (46 :: (D ++ 101 :: R)):=.inr ⟨_,_,rfl,by decide,by decide⟩
 obtain ⟨q1,q2⟩:=rch_app st2 [48] false (by intro c hc;rw [List.mem_singleton.1 hc];decide)
 have q1':rch 10 false (48 :: 46 :: (D ++ 101 :: R))=1:=q1
 have q2':rdg 10 false (48 :: 46 :: (D ++ 101 :: R))=[48]:=q2
 have dr:(D ++ 101 :: R).drop D.length=101 :: R:=List.drop_left
 have mn:mnt 10 false (48 :: 46 :: (D ++ 101 :: R))=some ([48],D,1+1+D.length):=by
  unfold mnt
  rw [q1',q2']
  have d1:(48 :: 46 :: (D ++ 101 :: R)).drop 1=46 :: (D ++ 101 :: R):=rfl
  have d2:(48 :: 46 :: (D ++ 101 :: R)).drop (1+1)=D ++ 101 :: R:=rfl
  rw [d1,d2,r1,r2,if_pos (show hdC (46 :: (D ++ 101 :: R))=46 from rfl),if_neg (by omega)]
 have d3:(48 :: 46 :: (D ++ 101 :: R)).drop (1+1+D.length)=101 :: R:=by
  rw [← List.drop_drop]
  exact dr
 have ex':exn 101 (101 :: R)=some (E,1+k):=ex
 have hd:kDec (48 :: 46 :: (D ++ 101 :: R))=some (dePt [48] D E,1+1+D.length+(1+k)):=by
  unfold kDec
  rw [mn]
  dsimp only
  rw [d3,ex']
 have hi:kInf (48 :: 46 :: (D ++ 101 :: R))=none:=by
  unfold kInf
  rw [if_neg (by rw [show wdB wInfinity (48 :: 46 :: (D ++ 101 :: R))=false from rfl];decide),if_neg (by rw [show wdB wInf (48 :: 46 :: (D ++ 101 :: R))=false from rfl];decide)]
 have hn:kNan false (48 :: 46 :: (D ++ 101 :: R))=none:=by
  unfold kNan
  rw [if_neg (by rw [show wdB wNan (48 :: 46 :: (D ++ 101 :: R))=false from rfl];rintro ⟨_,h⟩;cases h)]
 have hx:kHex (48 :: 46 :: (D ++ 101 :: R))=none:=by
  unfold kHex
  rw [if_neg (by rw [show isX (48 :: 46 :: (D ++ 101 :: R))=false from rfl];decide)]
 have ka:kAny false (48 :: 46 :: (D ++ 101 :: R))=some (dePt [48] D E,1+1+D.length+(1+k)):=by
  unfold kAny
  rw [hi,hn,hx,hd]
 have pf:pfx (48 :: 46 :: (D ++ 101 :: R))=some (dePt [48] D E,0+(1+1+D.length+(1+k))):=by
  unfold pfx
  rw [show sgA (48 :: 46 :: (D ++ 101 :: R))=0 from rfl,show decide (0<0)=false from rfl,List.drop_zero,ka]
  rfl
 unfold scn
 rw [pf]
 dsimp only
 rw [if_pos (by simp only [List.length_cons,List.length_append,hR];omega)]
theorem pln_id {D : List UInt8} (dg : ∀ c ∈ D, isD 10 c = true) : D.map pln = D := by
  induction D with
  | nil => rfl
  | cons c r ih =>
    rw [List.map_cons, ih (fun x h => dg x (by simp [h]))]
    rw [show pln c = c from if_pos (dg c (by simp))]
theorem dg_f {D:List UInt8}(dg:∀ c ∈ D,isD 10 c=true) (h:nz D=0):plD [48] D=48 :: D∧nz (plD [48] D)=1∧dgF [48] D=D:=by
 have a:plD [48] D=48 :: D:=by
  unfold plD
  refine pln_id (D:=48 :: D) ?_
  intro c hc
  rcases List.mem_cons.1 hc with rfl | q
  · decide
  · exact dg c q
 have b:nz (plD [48] D)=1:=by rw [a,nz_yes,h]
 exact ⟨a,b,by unfold dgF;rw [b,a];rfl⟩
theorem anz_nil:anz []=false:=rfl
theorem trn_all {D:List UInt8}(h0:D ≠ []) (h:D.getLast h0 ≠ 48):trn D=D.length:=by
 rcases Nat.lt_or_ge (trn D) D.length with q | q
 · exfalso
   have:=trn_out D (D.length - 1) (by omega) (by omega)
   rw [List.getLast_eq_getElem] at h
   exact h this
 · have:=trn_le D
   omega
theorem de_keep {D:List UInt8}(dg:∀ c ∈ D,isD 10 c=true) (h:nz D=0) (hl:D.length≤800) (hlast:∀ h0:D ≠ [],D.getLast h0 ≠ 48) {E:Int}(h0:-5000≤E) (h1:E≤5000) :
 dePt [48] D E={ kind:=1,dd:=D,dp:=if D=[] then 0 else E,dc:=false }:=by
 obtain ⟨a,b,c⟩:=dg_f dg h
 have dr:D.drop 800=[]:=List.drop_eq_nil_of_le hl
 have tk:D.take 800=D:=List.take_of_length_le hl
 unfold dePt dcT dcP dcC
 rw [c,b,dr,anz_nil]
 have sh:shT D=D:=by
  unfold shT
  rw [dr,anz_nil,if_neg (by decide),tk]
  by_cases q:D=[]
  · subst q
    rfl
  · rw [trn_all q (hlast q),List.take_length]
 rw [sh]
 have ct:ctI (ctI E+(([48]:List UInt8).length:Int) - ((1:Nat):Int))=E:=by
  unfold ctI
  simp only [List.length_singleton]
  omega
 rw [ct]
theorem de_cut {D:List UInt8}(dg:∀ c ∈ D,isD 10 c=true) (h:nz D=0) (hl:800<D.length) (hlast:∀ h0:D ≠ [],D.getLast h0 ≠ 48) {E:Int}(h0:-5000≤E) (h1:E≤5000) :
 dePt [48] D E={ kind:=1,dd:=D.take 800,dp:=E,dc:=true }:=by
 obtain ⟨a,b,c⟩:=dg_f dg h
 have ne:D ≠ []:=fun q=>by rw [q] at hl;exact absurd hl (by decide)
 have an:anz (D.drop 800)=true:=by
  apply Classical.byContradiction
  intro q0
  have q:anz (D.drop 800)=false:=by simpa using q0
  have q':=anz_no.1 q
  apply hlast ne
  apply q'
  rw [List.getLast_eq_getElem,List.mem_iff_getElem]
  refine ⟨D.length - 1 - 800,by rw [List.length_drop];omega,?_⟩
  have e8:800+(D.length - 1 - 800)=D.length - 1:=by omega
  rw [List.getElem_drop]
  simp only [e8]
 unfold dePt dcT dcP dcC
 rw [c,b,an]
 have sh:shT D=D.take 800:=by
  unfold shT
  rw [an,if_pos rfl]
 have ct:ctI (ctI E+(([48]:List UInt8).length:Int) - ((1:Nat):Int))=E:=by
  unfold ctI
  simp only [List.length_singleton]
  omega
 rw [sh,ct,if_neg ne]
theorem more_up {f:Nat}{L:Int}{b n d n' d':Nat}(h:vE n d 0 (hM f b) (hX f L b)) (d0:0<d) (d0':0<d') (hm:hM f b<2 ^ 60) (h1:n * d'<n' * d) (h2:n' * d * 2 ^ 60≤n * d' * (2 ^ 60+1)):RD f L n' d' 0 false (b+1):=by
 have q:=h.at (min 0 (hX f L b)) (by omega) (by omega)
 generalize hK:min 0 (hX f L b)=K at q
 have eA:∀ a,ev K a 0=a * 2 ^ (-hX f L b).toNat:=fun a=>by unfold ev;rw [show (0 - K).toNat=(-hX f L b).toNat by omega]
 have eB:∀ a,ev K a (hX f L b)=a * 2 ^ (hX f L b).toNat:=fun a=>by unfold ev;rw [show (hX f L b - K).toNat=(hX f L b).toNat by omega]
 generalize hP:2 ^ (-hX f L b).toNat=P at eA
 generalize hR:2 ^ (hX f L b).toNat=R at eB
 have P0:0<P:=by rw [← hP];exact Nat.two_pow_pos _
 have R0:0<R:=by rw [← hR];exact Nat.two_pow_pos _
 rw [eA,eB] at q
 have nx:lE (2 * mt f b+2) (hX f L b) (mt f (b+1)) (xp f L (b+1)):=by
  have s:=mt_succ f L b
  have t:=Eqv.twice (mt f b+1) (xp f L b)
  rw [show (mt f b+1) * 2=2 * mt f b+2 by omega] at t
  exact (t.symm.trans s).lE
 refine RD_of_le d0' ?_ (.inl (vL.up ?_ nx))
 · have key:d' * (hM f b * R)<n' * P:=by
    apply Nat.lt_of_mul_lt_mul_left (a:=d)
    calc d * (d' * (hM f b * R))=d' * (d * (hM f b * R)):=by rw [Nat.mul_left_comm]
     _=d' * (n * P):=by rw [q]
     _=n * d' * P:=by rw [← Nat.mul_assoc,Nat.mul_comm d' n]
     _<n' * d * P:=Nat.mul_lt_mul_of_pos_right h1 P0
     _=d * (n' * P):=by rw [← Nat.mul_assoc,Nat.mul_comm n' d]
   rintro (u | ⟨u,_,_⟩)
   · have w:=u.at K (by omega) (by omega)
     rw [eA,eB] at w
     omega
   · have w:=u.at K (by omega) (by omega)
     rw [eA,eB] at w
     omega
 · refine ⟨K,by omega,by omega,?_⟩
   rw [eA,eB]
   apply Nat.lt_of_mul_lt_mul_left (a:=d * 2 ^ 60)
   have e2:2 * mt f b+2=hM f b+1:=by unfold hM;omega
   calc d * 2 ^ 60 * (n' * P)=n' * d * 2 ^ 60 * P:=by rw [Nat.mul_comm n' d];simp only [Nat.mul_assoc,Nat.mul_left_comm,Nat.mul_comm]
    _≤n * d' * (2 ^ 60+1) * P:=Nat.mul_le_mul_right P h2
    _=n * P * d' * 2 ^ 60+n * P * d':=by rw [Nat.mul_add,Nat.mul_one,Nat.add_mul];simp only [Nat.mul_assoc,Nat.mul_left_comm,Nat.mul_comm]
    _<n * P * d' * 2 ^ 60+d * R * d' * 2 ^ 60:=by
     apply Nat.add_lt_add_left
     rw [q,show d * (hM f b * R) * d'=d * R * d' * hM f b by simp only [Nat.mul_assoc,Nat.mul_left_comm,Nat.mul_comm]]
     exact Nat.mul_lt_mul_of_pos_left hm (Nat.mul_pos (Nat.mul_pos d0 R0) d0')
    _=d * 2 ^ 60 * (d' * ((2 * mt f b+2) * R)):=by
     rw [e2,q,Nat.add_mul (hM f b),Nat.one_mul,Nat.mul_add d',Nat.mul_add (d * 2 ^ 60)]
     simp only [Nat.mul_assoc,Nat.mul_left_comm,Nat.mul_comm]
theorem half_more {f:Nat}{L:Int}{b n d:Nat}(h:vE n d 0 (hM f b) (hX f L b)) (d0:0<d):RD f L n d 0 true (b+1):=by
 refine RD_of_le d0 ?_ (.inl (h.up d0 (half_val f L b)))
 rintro (u | ⟨_,_,u⟩)
 · exact u.not_vE h
 · cases u
end Go.Proofs.YteeobndfnkeldaaGreatDoor
