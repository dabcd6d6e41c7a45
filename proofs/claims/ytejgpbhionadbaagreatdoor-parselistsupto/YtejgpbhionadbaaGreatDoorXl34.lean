/-
  Holds: PsN.
-/
import Derived.Test.YtejgpbhionadbaaGreatDoorChecked
import Derived.WalkKit
import Derived.Deep.DeepMust
import Derived.Lib.Strings
import Derived.Lib.BufferWrite
import Derived.Deep.OwnRows
import Derived.Deep.RegionHeld3
import Derived.Deep.QuietTactic
import Derived.BigQuiet
import Derived.Deep.AppendLies
import Derived.Lib.ConvBytes
import Derived.Test.YtejgpbhionadbaaGreatDoorShelf
import Derived.Test.YtejgpbhionadbaaGreatDoorRows
import Derived.WalkSpells
import Derived.WalkLawsBesides
import Derived.Lib.Mul64
import Derived.Lib.TrailingZeros
import Derived.Lib.ItoaNum
import Derived.Laws.CopyOwn
import Derived.Deep.LoopGhost
import Derived.Deep.DeepCutAuto
import Derived.Stop.Asserts
import Derived.RowKitTokens
import Derived.Test.YtejgpbhionadbaaGreatDoorXl11
import Derived.Test.YtejgpbhionadbaaGreatDoorXl32
import Derived.Test.YtejgpbhionadbaaGreatDoorXl33
set_option maxRecDepth 100000
set_option maxHeartbeats 4000000
namespace Go.Proofs.YtejgpbhionadbaaGreatDoor
def POk (P:Pt):Prop :=
 (P.kind=1/\VD (sB P.dd) P.dp P.dc) \/
 (P.kind=2/\P.mant<18446744073709551616 /\ -1099511627776<=P.exp/\P.exp<=1099511627776/\(P.cut=true -> 1152921504606846976<=P.mant)) \/
 P.kind=3 \/ (P.kind=4/\P.neg=false)
theorem aC8    : ∀ (l : List UInt8), (∀ c ∈ l, isD 16 c = true) → ∀ a, a * 16 ^ l.length ≤ av 16 a l
  | [], _, a => by rw [List.length_nil, Nat.pow_zero, Nat.mul_one]; exact Nat.le_refl _
  | c :: r, h, a => by
    have hc : dv c.toNat < 16 := of_decide_eq_true (h c (by simp))
    have ih := aC8    r (fun x hx => h x (by simp [hx])) (a * 16 + dv c.toNat)
    rw [jG     , jH      (by omega), List.length_cons, Nat.pow_succ]
    have e2 : a * (16 ^ r.length * 16) = a * 16 * 16 ^ r.length := by
      rw [Nat.mul_comm (16 ^ r.length) 16, ← Nat.mul_assoc]
    have : a * 16 * 16 ^ r.length ≤ (a * 16 + dv c.toNat) * 16 ^ r.length := Nat.mul_le_mul_right _ (by omega)
    omega
theorem aL8 {W P:List UInt8}(h:∀ c ∈ W ++ P,isD 16 c=true) (e:Int):POk (cV W P e):=by
 right;left
 unfold cV
 show (2:Int)=2/\hxM (W ++ P)<_/\_<=hxE W P e/\hxE W P e<=_/\(hxC (W ++ P)=true -> _<=hxM (W ++ P))
 have hE:-1099511627776<=hxE W P e/\hxE W P e<=1099511627776:=by
  unfold hxE
  split
  . omega
  . exact lW _
 generalize W ++ P=a at *
 have sub:∀ c ∈ (a.take (hxK a)).drop (nz a),isD 16 c=true:=fun c hc=>h c (List.mem_of_mem_take (List.mem_of_mem_drop hc))
 have len:((a.take (hxK a)).drop (nz a)).length=hxK a - nz a:=by
  rw [List.length_drop,List.length_take]
  unfold hxK
  omega
 have k1:hxK a - nz a<=16:=by unfold hxK;omega
 refine ⟨rfl,?_,hE.1,hE.2,?_⟩
 . have q:=wF _ sub 0
   have p:16 ^ ((a.take (hxK a)).drop (nz a)).length<=16 ^ 16:=Nat.pow_le_pow_right (by decide) (by omega)
   have e16:(16:Nat) ^ 16=18446744073709551616:=by decide
   unfold hxM
   omega
 . intro hc
   have hl:nz a+16<a.length:=by
    apply Classical.byContradiction
    intro n
    have:hxK a=a.length:=by unfold hxK;omega
    unfold hxC at hc
    rw [this,List.drop_eq_nil_of_le (Nat.le_refl _)] at hc
    exact absurd hc (by decide)
   have hk:hxK a=nz a+16:=by unfold hxK;omega
   have first:=gF a (by omega)
   unfold hxM
   revert sub len
   rw [hk]
   have e:(a.take (nz a+16)).drop (nz a)=a[nz a]'(by omega) :: (a.take (nz a+16)).drop (nz a+1):=by
    rw [List.drop_eq_getElem_cons (by rw [List.length_take];omega),List.getElem_take]
   rw [e]
   intro sub len
   have c16:dv (a[nz a]'(by omega)).toNat<16:=of_decide_eq_true (sub _ (by simp))
   have c0:dv (a[nz a]'(by omega)).toNat ≠ 0:=by
    intro z
    apply first
    have:(a[nz a]'(by omega)).toNat=48:=by
     revert z
     generalize (a[nz a]'(by omega)).toNat=t
     unfold dv
     split <;> (try split) <;> (try split) <;> omega
    exact UInt8.toNat_inj.1 this
   rw [jG,jH (by omega)]
   have l15:((a.take (nz a+16)).drop (nz a+1)).length=15:=by rw [List.length_cons] at len;omega
   have q:=aC8 ((a.take (nz a+16)).drop (nz a+1)) (fun c hc=>sub c (by simp [hc])) (0 * 16+dv (a[nz a]'(by omega)).toNat)
   rw [l15] at q
   have e15:(16:Nat) ^ 15=1152921504606846976:=by decide
   rw [e15] at q
   omega
theorem aKf {sg:Bool}{r:List UInt8}{P:Pt}{n:Nat}(h:bZ sg r=some (P,n)) (g:Bool) (hg:sg=false -> g=false):POk { P with neg:=g }:=by
 unfold bZ at h
 split at h
 . rename_i x hx
   obtain rfl:=Option.some.inj h
   unfold bJ at hx
   split at hx
   . obtain ⟨rfl,_⟩:=Prod.mk.inj (Option.some.inj hx)
     exact .inr (.inr (.inl rfl))
   . split at hx
     . obtain ⟨rfl,_⟩:=Prod.mk.inj (Option.some.inj hx)
       exact .inr (.inr (.inl rfl))
     . cases hx
 . split at h
   . rename_i x hx
     obtain rfl:=Option.some.inj h
     unfold bK at hx
     split at hx
     . rename_i q
       obtain ⟨rfl,_⟩:=Prod.mk.inj (Option.some.inj hx)
       exact .inr (.inr (.inr ⟨rfl,hg q.1⟩))
     . cases hx
   . split at h
     . rename_i x hx
       obtain rfl:=Option.some.inj h
       unfold aQ at hx
       split at hx
       . split at hx
         . cases hx
         . rename_i W Q m hm
           split at hx
           . cases hx
           . obtain ⟨rfl,_⟩:=Prod.mk.inj (Option.some.inj hx)
             have h:=aL8 (oD hm) (e:=by assumption)
             rcases h with ⟨h,_⟩ | h | h | ⟨h,_⟩
             . exact absurd (show (2:Int)=1 from h) (by decide)
             . exact .inr (.inl h)
             . exact absurd (show (2:Int)=3 from h) (by decide)
             . exact absurd (show (2:Int)=4 from h) (by decide)
       . cases hx
     . unfold cB at h
       split at h
       . cases h
       . split at h
         . obtain ⟨rfl,_⟩:=Prod.mk.inj (Option.some.inj h)
           exact .inl ⟨rfl,xP _ _ _⟩
         . obtain ⟨rfl,_⟩:=Prod.mk.inj (Option.some.inj h)
           exact .inl ⟨rfl,xP _ _ _⟩
theorem aJN     {l : List UInt8} (h : decide (0 < sgA l) = false) : sgM l = false := by
  rw [decide_eq_false_iff_not] at h
  match l, h with
  | [], _ => rfl
  | c :: r, h =>
    have q : ¬ (c = 43 ∨ c = 45) := fun q => h (by show 0 < (if _ then _ else _); rw [if_pos q]; decide)
    show (c == 45) = false
    exact beq_eq_false_iff_ne.mpr fun e => q (.inr e)
theorem aET {l:List UInt8}{P:Pt}{n:Nat}(h:pfx l=some (P,n)):POk P:=by
 unfold pfx at h
 split at h
 . cases h
 . rename_i p m hk
   obtain ⟨rfl,_⟩:=Prod.mk.inj (Option.some.inj h)
   exact aKf hk _ aJN
theorem aFl {l:List UInt8}{P:Pt}(h:scn l=some P):POk P:=by
 unfold scn at h
 split at h
 . cases h
 . rename_i p n hp
   split at h
   . obtain rfl:=Option.some.inj h
     exact aET hp
   . cases h
theorem aIX {z:Int}{g n f T:Nat}{L:Int}(hz:Fz z g n f T L) {m:Nat}{e:Int}{c:Bool}(h:c=true -> 1152921504606846976<=m):hxA f T L m e c=some (rdA f T L m 1 e c):=by
 unfold hxA
 rw [if_neg]
 rintro ⟨q,k,_⟩
 have f52:f<=52:=by rcases hz with ⟨_,_,_,rfl,_⟩ | ⟨_,_,_,rfl,_⟩ <;> decide
 have a:=h q
 have l60:60<=ln m:=by
  apply Classical.byContradiction
  intro n
  have b:=nX m
  have b2:2 ^ ln m<=2 ^ 60:=Nat.pow_le_pow_right (by decide) (by omega)
  have e60:(2:Nat) ^ 60=1152921504606846976:=by decide
  omega
 unfold dpD at k
 omega
def ofP (g f T:Nat) (L:Int) (P:Pt):Nat × Bool :=
 if P.kind=4 then (T * 2 ^ f+2 ^ (f - 1),false) else if P.kind=3 then (sgd g P.neg (T * 2 ^ f),false)
 else if P.kind=2 then (sgd g P.neg (rdA f T L P.mant 1 P.exp P.cut).1,(rdA f T L P.mant 1 P.exp P.cut).2)
 else (sgd g P.neg (nrX f T L (sB P.dd) P.dp P.dc).1,(nrX f T L (sB P.dd) P.dp P.dc).2)
theorem qT {f T:Nat}(hT:0<T) {L:Int}{d:ByteArray}{p:Int}{c:Bool}:(nrX f T L d p c).1<=T * 2 ^ f/\((nrX f T L d p c).2=true ↔ (nrX f T L d p c).1=T * 2 ^ f):=by
 unfold nrX
 split
 . have:0<T * 2 ^ f:=Nat.mul_pos hT (Nat.two_pow_pos f)
   exact ⟨Nat.zero_le _,⟨fun h=>absurd h (by decide),fun h=>absurd h (by show (0:Nat) ≠ _;omega)⟩⟩
 . exact fG hT
end Go.Proofs.YtejgpbhionadbaaGreatDoor
