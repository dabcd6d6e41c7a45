/-
  Holds: UCoM UCrA UCqM UCoE UCo1 UCoF UCoG.
-/
import Derived.Laws.BitsAllLaws
import Derived.Test.YteeobndfnkeldaaGreatDoorChecked
import Derived.Lib.ItoaNum
import Derived.Laws.Externs
import Derived.WalkKit
import Derived.WalkSpells
import Derived.WalkLawsBesides
import Derived.Lib.Mul64
import Derived.Lib.TrailingZeros
import Derived.Deep.OwnRows
import Derived.Laws.CopyOwn
import Derived.BigQuiet
import Derived.Deep.RegionHeld3
import Derived.Deep.LoopGhost
import Derived.Deep.AppendLies
import Derived.Deep.DeepCutAuto
import Derived.Stop.Asserts
import Derived.RowKitTokens
import Derived.Lib.Strings
import Derived.Lib.BufferWrite
import Derived.Lib.ConvBytes
import Derived.Test.YteeobndfnkeldaaGreatDoorXe6
import Derived.Test.YteeobndfnkeldaaGreatDoorXe7
set_option maxRecDepth 100000
set_option maxHeartbeats 4000000
namespace Go.Proofs.YteeobndfnkeldaaGreatDoor
theorem dvA_ge {s:ByteArray}(hd:DG s) (hf:dgt s 0 ≠ 48) {k:Nat}(hk:0<k):10 ^ (k - 1)≤dvA s 0 k:=by
 obtain ⟨j,rfl⟩:∃ j,k=1+j:=⟨k - 1,by omega⟩
 rw [dvA_add,show 1+j - 1=j from by omega]
 have a:=dgt_dg hd 0
 have e:dvA s 0 1=dgt s 0 - 48:=by rw [dvA_succ];show 0 * 10+(dgt s (0+0) - 48)=_;rw [Nat.add_zero];omega
 have b:1≤dvA s 0 1:=by rw [e];omega
 have c:=Nat.mul_le_mul_right (10 ^ j) b
 omega
theorem VN.ge {s:ByteArray}{p:Int}{c:Bool}(h:VN s p c):10 ^ (s.size - 1)≤dvA s 0 s.size:=dvA_ge h.dg (by rw [dgt_lt h.pos];exact h.first) h.pos
theorem fr_far_up {s:ByteArray}{q p:Int}{c:Bool}(h:VN s q c) (k:Nat) (hp:(k:Int)+1≤p):frD s p * 10 ^ k≤frN s p:=by
 unfold frN frD
 have z:=h.pos
 refine Nat.le_trans ?_ (Nat.mul_le_mul_right _ h.ge)
 rw [← Nat.pow_add,← Nat.pow_add]
 exact Nat.pow_le_pow_right (by decide) (by omega)
theorem fr_far_dn {s:ByteArray}{q p:Int}{c:Bool}(h:VN s q c) (k:Nat) (hp:p ≤ -(k:Int)):frN s p * 10 ^ k<frD s p:=by
 unfold frN frD
 have a:=dvA_lt h.dg 0 s.size
 rw [show (p - (s.size:Int)).toNat=0 from by omega,Nat.pow_zero,Nat.mul_one]
 have b:=Nat.mul_lt_mul_of_pos_right a (Nat.pow_pos (n:=k) (show 0<10 by decide))
 refine Nat.lt_of_lt_of_le b ?_
 rw [← Nat.pow_add]
 exact Nat.pow_le_pow_right (by decide) (by omega)
theorem two_ten (a b:Nat) (h:a≤3 * b) (b0:0<b):2 ^ a<10 ^ b:=by
 refine Nat.lt_of_le_of_lt (Nat.pow_le_pow_right (by decide) h) ?_
 rw [Nat.pow_mul]
 exact Nat.pow_lt_pow_left (by decide) (by omega)
theorem far_lo {nn dd N D A B:Nat}(hA:A<B) (hD:0<D) (hd:0<dd) (h:dd * B≤nn) (k:N≤D * A):N * dd<nn * D:=by
 have a:=Nat.mul_le_mul_right dd k
 have b:D * A * dd<D * B * dd:=Nat.mul_lt_mul_of_pos_right (Nat.mul_lt_mul_of_pos_left hA hD) hd
 have c:=Nat.mul_le_mul_right D h
 have e:D * B * dd=dd * B * D:=by rw [Nat.mul_assoc,Nat.mul_comm D,Nat.mul_comm B dd]
 omega
theorem far_hi {nn dd N D A B:Nat}(hA:A≤B) (hN:0<N) (h:nn * B<dd) (k:D≤N * A):nn * D<N * dd:=by
 have a:=Nat.mul_le_mul_left nn k
 have b:nn * (N * A)≤nn * (N * B):=Nat.mul_le_mul_left nn (Nat.mul_le_mul_left N hA)
 have c:=Nat.mul_lt_mul_of_pos_left h hN
 have e:nn * (N * B)=N * (nn * B):=Nat.mul_left_comm _ _ _
 omega
theorem Frc.within {N D m:Nat}{x:Int}(h:Frc N D m x) {k a:Nat}(hm:m<2 ^ k) (ha:k≤a) (x1:x+k≤a):N≤D * 2 ^ a:=by
 have h':=h.1
 rcases Int.lt_or_le x 0 with c | c
 · have q:=h'.at x (by omega) (Int.le_refl _)
   rw [ev_self] at q
   unfold ev at q
   have b:D * m≤D * 2 ^ a:=Nat.mul_le_mul_left D (Nat.le_trans (Nat.le_of_lt hm) (Nat.pow_le_pow_right (by decide) ha))
   rw [← q] at b
   exact Nat.le_trans (Nat.le_mul_of_pos_right _ (Nat.two_pow_pos _)) b
 · have q:=h'.at 0 (Int.le_refl _) c
   rw [ev_self] at q
   unfold ev at q
   rw [q]
   refine Nat.mul_le_mul_left D ?_
   refine Nat.le_trans (Nat.mul_le_mul_right _ (Nat.le_of_lt hm)) ?_
   rw [← Nat.pow_add]
   exact Nat.pow_le_pow_right (by decide) (by omega)
theorem Frc.above {N D m:Nat}{x:Int}(h:Frc N D m x) {a:Nat}(m0:0<m) (x1:-(a:Int)≤x):D≤N * 2 ^ a:=by
 have h':=h.1
 rcases Int.lt_or_le x 0 with c | c
 · have q:=h'.at x (by omega) (Int.le_refl _)
   rw [ev_self] at q
   unfold ev at q
   refine Nat.le_trans (Nat.le_mul_of_pos_right D m0) ?_
   rw [← q]
   exact Nat.mul_le_mul_left N (Nat.pow_le_pow_right (by decide) (by omega))
 · have q:=h'.at 0 (Int.le_refl _) c
   rw [ev_self] at q
   unfold ev at q
   rw [q]
   refine Nat.le_trans ?_ (Nat.le_mul_of_pos_right _ (Nat.two_pow_pos _))
   exact Nat.le_mul_of_pos_right D (Nat.mul_pos m0 (Nat.two_pow_pos _))
def oc (n d:Nat) (c:Bool) (N D:Nat):Int:=if ord (n * D) (N * d)=0∧c=true then 1 else ord (n * D) (N * d)
theorem oc_gt {n d N D:Nat}{c:Bool}(h:N * d<n * D):oc n d c N D=1:=by
 have e:ord (n * D) (N * d)=1:=by unfold ord;rw [if_neg (by omega),if_pos h]
 unfold oc
 rw [e,if_neg (by omega)]
theorem oc_lt {n d N D:Nat}{c:Bool}(h:n * D<N * d):oc n d c N D = -1:=by
 have e:ord (n * D) (N * d) = -1:=by unfold ord;rw [if_pos h]
 unfold oc
 rw [e,if_neg (by omega)]
theorem oc_eq {n d N D:Nat}{c:Bool}(h:n * D=N * d):oc n d c N D=if c then 1 else 0:=by
 have e:ord (n * D) (N * d)=0:=by unfold ord;rw [if_neg (by omega),if_neg (by omega)]
 unfold oc
 rw [e]
 cases c <;> simp
theorem oc_nought {s:ByteArray}{q p:Int}{c:Bool}(h:VN s q c) {D:Nat}(D0:0<D) (b:Bool):oc (frN s p) (frD s p) b 0 D=1:=by
 apply oc_gt
 rw [Nat.zero_mul]
 exact Nat.mul_pos (Nat.mul_pos h.val (Nat.pow_pos (by decide))) D0
theorem up_oc {f:Nat}{L:Int}{n d N D b:Nat}{c:Bool}(h:Frc N D (hM f b) (hX f L b)) (D0:0<D):Up f L n d 0 c b ↔ (oc n d c N D = -1 ∨ (oc n d c N D=0∧b % 2=0)):=by
 obtain ⟨c1,c2⟩:=frc_cmp (n:=n) (d:=d) h D0
 unfold Up
 rw [c1,c2]
 rcases Nat.lt_trichotomy (n * D) (N * d) with z | z | z
 · rw [oc_lt z]
   constructor
   · intro _;exact .inl rfl
   · intro _;exact .inl z
 · rw [oc_eq z]
   cases c
   · constructor
     · rintro (y | ⟨_,y,_⟩)
       · omega
       · exact .inr ⟨rfl,y⟩
     · rintro (y | ⟨_,y⟩)
       · simp at y
       · exact .inr ⟨z,y,rfl⟩
   · constructor
     · rintro (y | ⟨_,_,y⟩)
       · omega
       · cases y
     · rintro (y | ⟨y,_⟩)
       · simp at y
       · simp at y
 · rw [oc_gt z]
   constructor
   · rintro (y | ⟨y,_⟩) <;> omega
   · rintro (y | ⟨y,_⟩) <;> omega
theorem oc_cases (n d:Nat) (c:Bool) (N D:Nat):oc n d c N D = -1 ∨ oc n d c N D=0 ∨ oc n d c N D=1:=by
 rcases Nat.lt_trichotomy (n * D) (N * d) with z | z | z
 · exact .inl (oc_lt z)
 · rw [oc_eq z]
   cases c
   · exact .inr (.inl rfl)
   · exact .inr (.inr rfl)
 · exact .inr (.inr (oc_gt z))
end Go.Proofs.YteeobndfnkeldaaGreatDoor
namespace Go.Proofs.YteeobndfnkeldaaGreatDoor
open Go.RowKit
theorem rmag_z {s:Int}{g n f T:Nat}{L:Int}(h:Fz s g n f T L) {b:Nat}(hb:b<2 * g) (w:World):Cs 18 #[vU (b:Int),vI s] w (vU ((mg g b:Nat):Int)):=by
 rcases h with ⟨rfl,rfl,rfl,rfl,rfl,rfl⟩ | ⟨rfl,rfl,rfl,rfl,rfl,rfl⟩
 · exact rmag_32 hb w
 · exact rmag_64 hb w
theorem mg_self {g b:Nat}(h:b<g):mg g b=b:=Nat.mod_eq_of_lt h
theorem ba_none16 {s:ByteArray}(h:s.size=0):s=⟨#[]⟩:=by
 apply ByteArray.ext
 exact Array.eq_empty_of_size_eq_zero h
theorem VD.dg {s:ByteArray}{p:Int}{c:Bool}(h:VD s p c):DG s∧s.size≤801:=by
 rcases h with ⟨h,_⟩ | h
 · exact ⟨fun k hk=>absurd hk (by omega),by omega⟩
 · exact ⟨h.dg,by have:=h.len;omega⟩
def nrX (f T:Nat) (L:Int) (s:ByteArray) (p:Int) (c:Bool):Nat × Bool:=if s.size=0 then (0,false) else rdA f T L (frN s (nrP p)) (frD s (nrP p)) 0 c
theorem row_val {X K c:Nat}(hX:X<10 ^ K) (hc:c≤K) (hn:∀ i,c≤i → i<K → dgt (rowText 10 X K) i=48) {u:ByteArray}(hu:(rowText 10 X K).extract 0 c=u) (e:Int):frN u ((K:Int)+e) * 10 ^ (-e).toNat=X * 10 ^ e.toNat * frD u ((K:Int)+e):=by
 have sz:u.size=c:=by rw [← hu,ByteArray.size_extract,rowText_size];omega
 have e2:dvA u 0 c=dvA (rowText 10 X K) 0 c:=by rw [← hu];exact dvA_same fun i q=>by rw [Nat.zero_add];exact dgt_pre (by rw [rowText_size];omega) q
 have q:=row_cut hX hc hn
 unfold frN frD
 rw [sz,e2]
 generalize dvA (rowText 10 X K) 0 c=A at *
 rw [q,Nat.mul_assoc,Nat.mul_assoc,Nat.mul_assoc,← Nat.pow_add,← Nat.pow_add,← Nat.pow_add]
 congr 2
 omega
theorem val_up {X m j n d:Nat}(h:X=m * 2 ^ j) (q:n * 10 ^ (0:Nat)=X * 10 ^ (0:Nat) * d):vE n d 0 m (j:Int):=by
 refine ⟨0,Int.le_refl _,by omega,?_⟩
 rw [ev_self]
 unfold ev
 rw [show ((j:Int) - 0).toNat=j from by omega,← h]
 rw [Nat.pow_zero,Nat.mul_one,Nat.mul_one] at q
 rw [q,Nat.mul_comm]
theorem val_dn {X m j n d:Nat}(h:X=m * 5 ^ j) (q:n * 10 ^ j=X * 10 ^ (0:Nat) * d):vE n d 0 m (-(j:Int)):=by
 refine ⟨-(j:Int),by omega,Int.le_refl _,?_⟩
 rw [ev_self]
 unfold ev
 rw [show (0 - -(j:Int)).toNat=j from by omega]
 rw [Nat.pow_zero,Nat.mul_one,h,show (10:Nat)=2 * 5 from rfl,Nat.mul_pow,← Nat.mul_assoc,Nat.mul_right_comm m] at q
 rw [Nat.mul_comm d m]
 exact Nat.eq_of_mul_eq_mul_right (Nat.pow_pos (by decide)) q
end Go.Proofs.YteeobndfnkeldaaGreatDoor
namespace Go.Proofs.YteeobndfnkeldaaGreatDoor
def clP (p:Int):Int:=max (-324) (min p 310)
def Alk (p q:Int):Prop:=q=p ∨ (310≤p∧310≤q) ∨ (p ≤ -324∧q ≤ -324)
theorem clP_in (p:Int):-324≤clP p∧clP p≤310:=by unfold clP;omega
theorem alk_nr (p:Int):Alk (clP p) (nrP p):=by
 unfold Alk nrP clP
 split
 · omega
 · split <;> omega
theorem two_up:∃ a e:Nat,a=1024∧e=309∧2 ^ a<10 ^ e:=⟨1024,309,rfl,rfl,by decide +kernel⟩
theorem two_dn:∃ a e:Nat,a=1075∧e=324∧2 ^ a≤10 ^ e:=⟨1075,324,rfl,rfl,by decide +kernel⟩
structure Bnd (m:Nat) (x:Int):Prop where
 hi:∃ k:Nat,m<2 ^ k∧k≤64∧x+k≤1024
 lo:-1075≤x
theorem bnd_half {s:Int}{g n f T:Nat}{L:Int}(hz:Fz s g n f T L) {b:Nat}(hb:b<n):Bnd (hM f b) (hX f L b):=by
 obtain ⟨p1,p2,p3⟩:=parts_lim hz hb
 have e:(2:Nat) ^ 54=18014398509481984:=by decide
 unfold hM hX
 exact ⟨⟨54,by rw [e];omega,by decide,by omega⟩,by omega⟩
theorem oc_hi {s:ByteArray}{q p:Int}{c:Bool}(h:VN s q c) (hp:310≤p) {N D m:Nat}{x:Int}(k:Frc N D m x) (hb:Bnd m x) (b:Bool):oc (frN s p) (frD s p) b N D=1:=by
 obtain ⟨a,e,ha,he,hae⟩:=two_up
 obtain ⟨⟨j,j1,j2,j3⟩,_⟩:=hb
 exact oc_gt (far_lo hae k.pos (Nat.pow_pos (by decide)) (fr_far_up h e (by omega)) (k.within j1 (by omega) (by omega)))
theorem oc_lo {s:ByteArray}{q p:Int}{c:Bool}(h:VN s q c) (hp:p ≤ -324) {N D m:Nat}{x:Int}(k:Frc N D m x) (hb:Bnd m x) (m0:0<m) (b:Bool):oc (frN s p) (frD s p) b N D = -1:=by
 obtain ⟨a,e,ha,he,hae⟩:=two_dn
 have N0:0<N:=Nat.pos_of_ne_zero fun z=>by have:=k.zero.1 z;omega
 have lo:=hb.lo
 exact oc_lt (far_hi hae N0 (fr_far_dn h e (by omega)) (k.above m0 (by omega)))
theorem oc_alk {s:ByteArray}{q p p':Int}{c:Bool}(h:VN s q c) (hp:Alk p p') {N D m:Nat}{x:Int}(k:Frc N D m x) (hb:Bnd m x) (b:Bool):oc (frN s p') (frD s p') b N D=oc (frN s p) (frD s p) b N D:=by
 rcases hp with rfl | ⟨h1,h2⟩ | ⟨h1,h2⟩
 · rfl
 · rw [oc_hi h h1 k hb,oc_hi h h2 k hb]
 · rcases Nat.eq_zero_or_pos m with z | z
   · obtain rfl:=k.zero.2 z
     rw [oc_nought h k.pos,oc_nought h k.pos]
   · rw [oc_lo h h1 k hb z,oc_lo h h2 k hb z]
theorem frD_pos (s:ByteArray) (p:Int):0<frD s p:=Nat.pow_pos (by decide)
theorem up_alk {z:Int}{g n f T:Nat}{L:Int}(hz:Fz z g n f T L) {s:ByteArray}{q p p':Int}{c:Bool}(h:VN s q c) (hp:Alk p p') (c':Bool) {b:Nat}(hb:b<n):Up f L (frN s p') (frD s p') 0 c' b ↔ Up f L (frN s p) (frD s p) 0 c' b:=by
 have k:=ex_frc (hM f b) (hX f L b)
 rw [up_oc k k.pos,up_oc k k.pos,oc_alk h hp k (bnd_half hz hb)]
theorem rd_end {f T:Nat}(hf:0<f) {L:Int}{X Y:Nat}{c:Bool}(X0:X ≠ 0) (Y0:Y ≠ 0) (d:¬ Up f L X Y 0 c (T * 2 ^ f - 1)):rdA f T L X Y 0 c=(T * 2 ^ f,true):=by
 have r:=rdN_RD (f:=f) (L:=L) (e:=0) hf c X0 Y0
 unfold rdA
 rw [if_neg X0,if_neg]
 intro lt
 exact d (r.1.mono (Nat.pos_of_ne_zero Y0) (by omega))
theorem rd_steps {f T:Nat}(hf:0<f) {L:Int}{X Y r:Nat}{c:Bool}(X0:X ≠ 0) (Y0:Y ≠ 0) (hr:r≤T * 2 ^ f) (lo:r=0 ∨ ¬ Up f L X Y 0 c (r - 1)) (hi:r<T * 2 ^ f → Up f L X Y 0 c r) (h0:0<T * 2 ^ f):rdA f T L X Y 0 c=if r<T * 2 ^ f then (r,false) else (T * 2 ^ f,true):=by
 by_cases q:r<T * 2 ^ f
 · rw [rdA_of hf X0 Y0 ⟨hi q,lo⟩]
 · rw [if_neg q]
   have e:r=T * 2 ^ f:=by omega
   rw [e] at lo
   rcases lo with lo | lo
   · omega
   · exact rd_end hf X0 Y0 lo
theorem frN_ne {s:ByteArray}{q p:Int}{c:Bool}(h:VN s q c):frN s p ≠ 0:=Nat.pos_iff_ne_zero.mp (Nat.mul_pos h.val (Nat.pow_pos (by decide)))
theorem rd_alk {z:Int}{g n f T:Nat}{L:Int}(hz:Fz z g n f T L) {s:ByteArray}{q p p':Int}{c:Bool}(h:VN s q c) (hp:Alk p p') (c':Bool):rdA f T L (frN s p') (frD s p') 0 c'=rdA f T L (frN s p) (frD s p) 0 c':=by
 obtain ⟨en,_,_,_⟩:=fz_parts hz
 have hf:0<f∧0<n:=by rcases hz with ⟨_,_,rfl,rfl,_,_⟩ | ⟨_,_,rfl,rfl,_,_⟩ <;> decide
 have Y0:=fun x=>Nat.pos_iff_ne_zero.mp (frD_pos s x)
 have r:=rdN_RD (f:=f) (L:=L) (e:=0) hf.1 c' (frN_ne (p:=p) h) (Y0 p)
 generalize rdN f L (frN s p) (frD s p) 0 c'=b at r
 by_cases k:b<n
 · have r':RD f L (frN s p') (frD s p') 0 c' b:=by
    refine ⟨(up_alk hz h hp c' k).2 r.1,?_⟩
    rcases r.2 with e | e
    · exact .inl e
    · exact .inr fun u=>e ((up_alk hz h hp c' (by omega)).1 u)
   rw [rdA_of hf.1 (frN_ne h) (Y0 p) r,rdA_of hf.1 (frN_ne h) (Y0 p') r']
 · have d:¬ Up f L (frN s p) (frD s p) 0 c' (T * 2 ^ f - 1):=by
    rw [← en]
    intro u
    rcases r.2 with e | e
    · omega
    · exact e (u.mono (frD_pos _ _) (by omega))
   have d':¬ Up f L (frN s p') (frD s p') 0 c' (T * 2 ^ f - 1):=by
    rw [← en] at d ⊢
    exact fun u=>d ((up_alk hz h hp c' (by omega)).1 u)
   rw [rd_end hf.1 (frN_ne h) (Y0 p) d,rd_end hf.1 (frN_ne h) (Y0 p') d']
theorem head_le {s:ByteArray}{k:Nat}(hk:k≤s.size) (p:Int):frN (s.extract 0 k) p * frD s p≤frN s p * frD (s.extract 0 k) p:=by
 have es:(s.extract 0 k).size=k:=by rw [ByteArray.size_extract];omega
 have ed:dvA (s.extract 0 k) 0 k=dvA s 0 k:=dvA_same fun i hi=>by rw [Nat.zero_add];exact dgt_pre hk hi
 unfold frN frD
 rw [es,ed]
 obtain ⟨j,ej⟩:∃ j,s.size=k+j:=⟨s.size - k,by omega⟩
 rw [ej,dvA_add]
 generalize dvA s 0 k=A
 generalize dvA s k j=R
 rw [Nat.mul_assoc,← Nat.pow_add,Nat.mul_assoc,← Nat.pow_add,Nat.add_mul,Nat.mul_assoc,← Nat.pow_add]
 have e:(p - (k:Int)).toNat+(((k+j:Nat):Int) - p).toNat=j+((p - ((k+j:Nat):Int)).toNat+((k:Int) - p).toNat):=by omega
 rw [e]
 exact Nat.le_add_right _ _
theorem up_head {f:Nat}{L:Int}{X Y X' Y' b:Nat}{c:Bool}(Y0:0<Y) (Y0':0<Y') (h:X' * Y≤X * Y') (u:Up f L X Y 0 c b):Up f L X' Y' 0 false b:=by
 have u1:Up f L X Y 0 false b:=by
  rcases u with u | ⟨u1,u2,_⟩
  · exact .inl u
  · exact .inr ⟨u1,u2,rfl⟩
 have u2:Up f L (X * Y') (Y * Y') 0 false b:=(Up_iff Y0 (Nat.mul_pos Y0 Y0') ⟨0,Int.le_refl _,Int.le_refl _,by
  unfold ev
  rw [Nat.mul_comm Y Y',Nat.mul_assoc X Y' Y]⟩ b).1 u1
 have u3:=u2.less h
 exact (Up_iff Y0' (Nat.mul_pos Y0 Y0') ⟨0,Int.le_refl _,Int.le_refl _,by
  unfold ev
  rw [Nat.mul_assoc X' Y Y']⟩ b).2 u3
theorem guess_ok {f T:Nat}(hf:0<f) {L:Int}{X Y X' Y':Nat}{c:Bool}(Y0:0<Y) (Y0':0<Y') (h:X' * Y≤X * Y'):(rdA f T L X' Y' 0 false).1=0 ∨ ¬ Up f L X Y 0 c ((rdA f T L X' Y' 0 false).1 - 1):=by
 by_cases z:X'=0
 · left;unfold rdA;rw [if_pos z]
 · have r:=rdN_RD (f:=f) (L:=L) (e:=0) hf false z (Nat.pos_iff_ne_zero.mp Y0')
   have key:∀ b,b≤rdN f L X' Y' 0 false → b=0 ∨ ¬ Up f L X Y 0 c (b - 1):=by
    intro b hb
    rcases Nat.eq_zero_or_pos b with e | e
    · exact .inl e
    · right
      intro u
      rcases r.2 with k | k
      · omega
      · exact k ((up_head Y0 Y0' h u).mono Y0' (by omega))
   unfold rdA
   rw [if_neg z]
   split
   · exact key _ (Nat.le_refl _)
   · exact key _ (by simp only;omega)
theorem up_none {f:Nat}{L:Int}{Y b:Nat}(Y0:0<Y):Up f L 0 Y 0 false b:=by
 have k:=ex_frc (hM f b) (hX f L b)
 rw [up_oc k k.pos]
 left
 apply oc_lt
 rw [Nat.zero_mul]
 exact Nat.mul_pos (Nat.pos_of_ne_zero (half_ne k)) Y0
theorem nr_steps {z:Int}{g n f T:Nat}{L:Int}(hz:Fz z g n f T L) {s:ByteArray}{p:Int}{c:Bool}(h:VD s p c) {r:Nat}(hr:r≤n) (lo:r=0 ∨ ¬ Up f L (frN s (clP p)) (frD s (clP p)) 0 c (r - 1)) (hi:r<n → Up f L (frN s (clP p)) (frD s (clP p)) 0 c r):nrX f T L s p c=(r,decide (r=n)):=by
 obtain ⟨en,_,_,_⟩:=fz_parts hz
 have hf:0<f∧0<n:=by rcases hz with ⟨_,_,rfl,rfl,_,_⟩ | ⟨_,_,rfl,rfl,_,_⟩ <;> decide
 rcases h with ⟨h0,rfl,rfl⟩ | h
 · have e:frN s (clP 0)=0:=by unfold frN;rw [h0];exact Nat.zero_mul _
   have r0:r=0:=by
    rcases lo with k | k
    · exact k
    · rw [e] at k
      exact absurd (up_none (frD_pos _ _)) k
   unfold nrX
   rw [if_pos h0,r0,decide_eq_false (by omega)]
 · unfold nrX
   rw [if_neg (by have:=h.pos;omega),rd_alk hz h (alk_nr p)]
   rw [rd_steps (T:=T) (r:=r) hf.1 (frN_ne h) (Nat.pos_iff_ne_zero.mp (frD_pos _ _)) (by omega) lo (by rw [← en];exact hi) (by omega),← en]
   by_cases k:r<n
   · rw [if_pos k,decide_eq_false (by omega)]
   · rw [if_neg k,decide_eq_true (by omega),show n=r by omega]
theorem Frc.lim {N D m:Nat}{x:Int}(h:Frc N D m x) (hb:Bnd m x):∃ a b:Nat,D≤2 ^ a∧N≤2 ^ b∧a=1075∧b=2099:=by
 obtain ⟨a,ha⟩:∃ a:Nat,a=1075:=⟨_,rfl⟩
 obtain ⟨b,hb'⟩:∃ b:Nat,b=1024:=⟨_,rfl⟩
 have hD:D≤2 ^ a:=by
  obtain ⟨v,j,rfl,o⟩:=h
  refine Nat.pow_le_pow_right (by decide) ?_
  rcases o with o | o
  · rcases Int.lt_or_le x 0 with c | c
    · have q:=v.at x (by omega) (Int.le_refl _)
      rw [ev_self] at q
      unfold ev at q
      have lo:=hb.lo
      rcases Nat.lt_or_ge j (0 - x).toNat with y | y
      · omega
      · have w:=(frc_key (n:=m) (n':=N) (k:=(0 - x).toNat) (k':=j) (by rw [q];exact Nat.mul_comm _ _) (.inl o) y).2
        omega
    · have q:=v.at 0 (Int.le_refl _) c
      rw [ev_self] at q
      rcases Nat.eq_zero_or_pos j with y | y
      · omega
      · obtain ⟨i,rfl⟩:∃ i,j=i+1:=⟨j - 1,by omega⟩
        rw [q,Nat.pow_succ,Nat.mul_right_comm] at o
        omega
  · omega
 obtain ⟨⟨k,k1,k2,k3⟩,_⟩:=hb
 have hN:=h.within (a:=b) k1 (by omega) (by omega)
 refine ⟨a,a+b,hD,?_,ha,by omega⟩
 rw [Nat.pow_add]
 exact Nat.le_trans hN (Nat.mul_le_mul_right _ hD)
theorem fit_mul {a b A C K:Nat}(h1:a≤2 ^ A) (h2:b≤2 ^ C) (h:A+C<64 * K):a * b<B ^ K:=by
 have e:B=2 ^ 64:=by decide
 rw [e,← Nat.pow_mul]
 refine Nat.lt_of_le_of_lt (Nat.mul_le_mul h1 h2) ?_
 rw [← Nat.pow_add]
 exact Nat.pow_lt_pow_right (by decide) h
theorem ten_two (k:Nat):10 ^ k≤2 ^ (4 * k):=by
 rw [Nat.pow_mul]
 exact Nat.pow_le_pow_left (by decide) k
theorem frN_lim {s:ByteArray}(hs:s.size≤800) (hd:DG s) {p:Int}(h:p≤310):∃ a:Nat,frN s p≤2 ^ a∧a=4440:=by
 obtain ⟨k,hk⟩:∃ k:Nat,k=1110:=⟨_,rfl⟩
 refine ⟨4 * k,Nat.le_trans ?_ (ten_two k),by omega⟩
 unfold frN
 refine Nat.le_trans (Nat.mul_le_mul_right _ (Nat.le_of_lt (dvA_lt hd 0 s.size))) ?_
 rw [← Nat.pow_add]
 exact Nat.pow_le_pow_right (by decide) (by omega)
theorem frD_lim {s:ByteArray}(hs:s.size≤800) {p:Int}(h:-324≤p):∃ a:Nat,frD s p≤2 ^ a∧a=4496:=by
 obtain ⟨k,hk⟩:∃ k:Nat,k=1124:=⟨_,rfl⟩
 refine ⟨4 * k,Nat.le_trans ?_ (ten_two k),by omega⟩
 unfold frD
 exact Nat.pow_le_pow_right (by decide) (by omega)
end Go.Proofs.YteeobndfnkeldaaGreatDoor
namespace Go.Proofs.YteeobndfnkeldaaGreatDoor
open Go.RowKit
def pw5 (j:Nat):Nat:=5 ^ j
def pwT (j:Nat):Nat:=10 ^ j
theorem five_most:2 ^ 64 * pw5 1075<pwT 800:=by decide +kernel
theorem pw5_mono {a b:Nat}(h:a≤b):pw5 a≤pw5 b:=Nat.pow_le_pow_right (by decide) h
theorem pwT_mono {a b:Nat}(h:a≤b):pwT a≤pwT b:=Nat.pow_le_pow_right (by decide) h
theorem len_up {m j K N:Nat}(hm:m<2 ^ 64) (hj:j≤1000) (hK:10 ^ (K - 1)≤m * 2 ^ j) (hN:N=500):K≤N:=by
 apply Nat.le_of_not_lt
 intro c
 have a:m * 2 ^ j<2 ^ (64+j):=by rw [Nat.pow_add];exact Nat.mul_lt_mul_of_pos_right hm (Nat.two_pow_pos j)
 have b:=two_ten (64+j) N (by omega) (by omega)
 have d:10 ^ N≤10 ^ (K - 1):=Nat.pow_le_pow_right (by decide) (by omega)
 exact absurd (Nat.lt_of_le_of_lt (Nat.le_trans d hK) (Nat.lt_trans a b)) (Nat.lt_irrefl _)
theorem len_dn {m j K:Nat}(hm:m<2 ^ 64) (hj:j≤1075) (hK:10 ^ (K - 1)≤m * 5 ^ j):K≤800:=by
 apply Nat.le_of_not_lt
 intro c
 have a:m * pw5 j≤2 ^ 64 * pw5 1075:=Nat.mul_le_mul (Nat.le_of_lt hm) (pw5_mono hj)
 have d:pwT 800≤pwT (K - 1):=pwT_mono (by omega)
 exact absurd (Nat.lt_of_le_of_lt (Nat.le_trans d hK) (Nat.lt_of_le_of_lt a five_most)) (Nat.lt_irrefl _)
theorem point_hi {m j K N:Nat}(hm:m<2 ^ 64) (hK:10 ^ (K - 1)≤m * 5 ^ j) (hN:N=500):K≤j+N:=by
 apply Nat.le_of_not_lt
 intro c
 have a:m * 5 ^ j≤2 ^ 64 * 10 ^ j:=Nat.mul_le_mul (Nat.le_of_lt hm) (Nat.pow_le_pow_left (by decide) j)
 have b:=two_ten 64 N (by omega) (by omega)
 have d:10 ^ (N+j)≤10 ^ (K - 1):=Nat.pow_le_pow_right (by decide) (by omega)
 have e:2 ^ 64 * 10 ^ j<10 ^ (N+j):=by rw [Nat.pow_add];exact Nat.mul_lt_mul_of_pos_right b (Nat.pow_pos (by decide))
 exact absurd (Nat.lt_of_le_of_lt (Nat.le_trans d hK) (Nat.lt_of_le_of_lt a e)) (Nat.lt_irrefl _)
theorem point_lo {m j K N:Nat}(m0:0<m) (hj:j≤1075) (hK:m * 5 ^ j<10 ^ K) (hN:N=500):j≤K+N:=by
 apply Nat.le_of_not_lt
 intro c
 have a:5 ^ j≤m * 5 ^ j:=Nat.le_mul_of_pos_left _ m0
 have b:=two_ten j N (by omega) (by omega)
 have d:5 ^ j * 2 ^ j<10 ^ K * 10 ^ N:=Nat.mul_lt_mul'' (Nat.lt_of_le_of_lt a hK) b
 rw [← Nat.mul_pow,← Nat.pow_add] at d
 have e:10 ^ (K+N)≤10 ^ j:=Nat.pow_le_pow_right (by decide) (by omega)
 exact absurd (Nat.lt_of_lt_of_le d e) (Nat.lt_irrefl _)
theorem row_vn16 {X K m:Nat}{p:Int}(hK:1≤K) (h9:K≤800) (h0:10 ^ (K - 1)≤X) (hX:X<10 ^ K) (hm:m≤K) (m0:0<m) (hl:dgt (rowText 10 X K) (m - 1) ≠ 48) (hp:-1000000≤p) (hq:p≤1000000):VN ((rowText 10 X K).extract 0 m) p false:=by
 have sz:((rowText 10 X K).extract 0 m).size=m:=by rw [ByteArray.size_extract,rowText_size];omega
 have hs:m≤(rowText 10 X K).size:=by rw [rowText_size];exact hm
 refine ⟨by omega,by omega,?_,?_,.inl ?_,by omega,by omega⟩
 · intro k hk
   have a:=dgt_dg (dg_row X K) k
   rw [← dgt_pre hs (by omega),dgt_lt hk] at a
   exact a
 · rw [← dgt_lt,dgt_pre hs m0]
   exact row_first hK h0 hX
 · rw [← dgt_lt,dgt_pre hs (by omega),sz]
   exact hl
theorem row_made {X K:Nat}(hK:1≤K) (h8:K≤800) (h0:10 ^ (K - 1)≤X) (hX:X<10 ^ K) {e:Int}(he:-2000≤e) (he2:e≤2000) :
 ∃ u,VN u ((K:Int)+e) false∧frN u ((K:Int)+e) * 10 ^ (-e).toNat=X * 10 ^ e.toNat * frD u ((K:Int)+e) ∧
  ∀ W,Cb 89 #[.string (rowText 10 X K),vI ((K:Int)+e),.bool false] W (.tuple #[dcV u ((K:Int)+e) false,vI 0]):=by
 obtain ⟨c,hc,hc1,hc2⟩:=no_noughts (rowText 10 X K) K
 have rs:=rowText_size 10 X K
 have c0:0<c:=by
  apply Nat.pos_of_ne_zero
  intro z
  subst z
  exact row_first hK h0 hX (hc1 0 (Nat.le_refl _) hK)
 have hl:dgt (rowText 10 X K) (c - 1) ≠ 48:=hc2.resolve_left (by omega)
 refine ⟨(rowText 10 X K).extract 0 c,row_vn16 hK h8 h0 hX hc c0 hl (by omega) (by omega),row_val hX hc hc1 rfl e,fun W=>?_⟩
 have ea:(rowText 10 X K).extract 0 (rowText 10 X K).size=rowText 10 X K:=by
  apply ByteArray.ext
  rw [ByteArray.data_extract]
  exact Array.extract_size
 have R:=rmake_in (t:=rowText 10 X K) (p:=(K:Int)+e) (by omega) (dg_row X K) (z:=0) (by omega) (fun i q=>absurd q (by omega)) (row_first hK h0 hX) ea (by omega) (m:=c) (by omega) c0 (fun i p q=>hc1 i p (by omega)) hl (by omega) (by omega) (by unfold inR;omega) W
 rw [show (K:Int)+e - ((0:Nat):Int)=(K:Int)+e from by omega] at R
 exact R
theorem decimal_up {m j:Nat}(m0:0<m) (hm:m<18446744073709551616) (hj:j≤1000) (w:World) :
 Calls Tryz.prog 44 #[vU (m:Int),vI (j:Int)] w fun e w'=>∃ u P,e=.returned (dcV u P false)∧VN u P false∧nrP P=P∧vE (frN u P) (frD u P) 0 m (j:Int)∧Bl w w':=by
 have SM:=fun W=>small_nat m (by unfold B;exact hm) W
 have fM:Fits 2 m:=Fits.word (n:=1) (by unfold B;omega)
 have fX:Fits 200 (m * 2 ^ j):=(fM.mul (two_fits (s:=j) (k:=100) (by omega))).up (by omega)
 have x0:m * 2 ^ j ≠ 0:=Nat.ne_of_gt (Nat.mul_pos m0 (Nat.pow_pos (by decide)))
 have HM:Hid (0<m∧m<2 ^ 64∧Fits 2 m∧Fits 210 (m * 2 ^ j)∧m * 2 ^ j ≠ 0):=⟨m0,hm,fM,fX.up (by omega),x0⟩
 clear fM fX x0
 obtain ⟨X,hX⟩:∃ X,X=m * 2 ^ j:=⟨_,rfl⟩
 rw [← hX] at HM
 have HX:Hid (X=m * 2 ^ j):=hX
 have F0:Hid (DcB (w.alloc (.cells #[.string ⟨#[]⟩,vI 0,.bool false] 41)) w.heap.size (.string ⟨#[]⟩) (vI 0) (.bool false)∧Bl w (w.alloc (.cells #[.string ⟨#[]⟩,vI 0,.bool false] 41))):=⟨DcB.new w _ _ _ _,bz _ _⟩
 clear hX
 go_enter Tryz.func44,Tryz.ntmps44
 go_wp2_with fail
 refine (SM _).mono ?_
 rintro o w1 ⟨v1,rfl,n1,b1⟩
 have F1:Hid (DcB w1 w.heap.size (.string ⟨#[]⟩) (vI 0) (.bool false)∧Bl w w1∧Big.NatV w1 v1 m):=⟨F0.out.1.step b1,F0.out.2.trans (b1.mono F0.out.2.size),n1⟩
 clear b1 n1 SM F0
 have UP:=up_any F1.out.2.2 (HM.out.2.2.1.up (by omega)) j (by omega)
 rw [← HX.out] at UP
 go_wp2_with fail
 all_goals first | (exfalso;omega) | skip
 refine UP.mono ?_
 rintro o w3 ⟨v3,rfl,n3,b3⟩
 have F3:Hid (DcB w3 w.heap.size (.string ⟨#[]⟩) (vI 0) (.bool false)∧Bl w w3∧Big.NatV w3 v3 X):=⟨F1.out.1.step b3,F1.out.2.1.trans (b3.mono F1.out.2.1.size),n3⟩
 clear b3 n3 UP F1
 have XB:X<B ^ 128:=by
  have z:=HM.out.2.2.2.1
  obtain ⟨k,a,b⟩:=z.up (show 210≤256 by omega)
  rw [BB_pow]
  exact Nat.lt_of_lt_of_le b (Nat.pow_le_pow_right Big.B_pos (by omega))
 have TL:=tell_any F3.out.2.2 HM.out.2.2.2.2 XB 10 (by decide) (by decide)
 simp only [Int.cast_ofNat_Int] at TL
 clear XB
 go_wp2_with fail
 all_goals first | (exfalso;omega) | skip
 refine TL.mono ?_
 rintro o w4 ⟨K,rfl,k1,k2,k3,b4⟩
 have F4:Hid (DcB w4 w.heap.size (.string ⟨#[]⟩) (vI 0) (.bool false)∧Bl w w4):=⟨F3.out.1.step b4,F3.out.2.1.trans (b4.mono F3.out.2.1.size)⟩
 clear b4 TL F3
 have rs:=rowText_size 10 X K
 have kN:K≤500:=len_up HM.out.2.1 hj (by rw [← HX.out];exact k2) rfl
 obtain ⟨u,hv,hq,MK⟩:=row_made (e:=0) k1 (by omega) k2 k3 (by omega) (by omega)
 have VV:Hid (VN u ((K:Int)+0) false∧nrP ((K:Int)+0)=(K:Int)+0∧vE (frN u ((K:Int)+0)) (frD u ((K:Int)+0)) 0 m (j:Int)):=⟨hv,by unfold nrP;rw [if_neg (by omega),if_neg (by omega)],val_up HX.out hq⟩
 rw [Int.add_zero] at VV MK
 unfold dcV at MK
 clear hv hq k1 k2 k3 HM HX
 generalize rowText 10 X K=rt at *
 go_wp2_with fail
 refine (MK _).mono ?_
 rintro o w5 ⟨rfl,b5⟩
 have F5:Hid (DcB w5 w.heap.size (.string ⟨#[]⟩) (vI 0) (.bool false)∧Bl w w5):=⟨F4.out.1.step b5,F4.out.2.trans (b5.mono F4.out.2.size)⟩
 clear b5 F4 MK
 obtain ⟨l5,a0,a1,a2,f0,f1,f2⟩:=F5.out.1
 go_wp2
 exact bodyPost_ret (v:=.agg #[.string u,vI (K:Int),.bool false]) (by simp [results,Tryz.results44,go_sem,World.cell?_setCell_same,World.cell?_setCell_other, *]) rfl ⟨u,(K:Int),rfl,VV.out.1,VV.out.2.1,VV.out.2.2,(((F5.out.2.setCell (Nat.le_refl _) _).setCell (Nat.le_refl _) _).setCell (Nat.le_refl _) _).alloc (by simpa using F5.out.2.size) _⟩
theorem decimal_dn {m j:Nat}(m0:0<m) (hm:m<18446744073709551616) (j0:0<j) (hj:j≤1075) (w:World) :
 Calls Tryz.prog 44 #[vU (m:Int),vI (-(j:Int))] w fun e w'=>∃ u P,e=.returned (dcV u P false)∧VN u P false∧nrP P=P∧vE (frN u P) (frD u P) 0 m (-(j:Int))∧Bl w w':=by
 have SM:=fun W=>small_nat m (by unfold B;exact hm) W
 have RA:=fun W=>raised_far 5 j (by decide) (by decide) (by omega) W
 simp only [Int.cast_ofNat_Int] at RA
 have fM:Fits 2 m:=Fits.word (n:=1) (by unfold B;omega)
 have f5:Fits 200 (5 ^ j):=by
  have a:5 ^ j≤8 ^ j:=Nat.pow_le_pow_left (by omega) j
  rw [show 8=2 ^ 3 from rfl,← Nat.pow_mul] at a
  exact (two_fits (s:=3 * j) (k:=200) (by omega)).le a
 have fX:Fits 210 (m * 5 ^ j):=(fM.mul f5).up (by omega)
 have HF5:Hid (Fits 200 (5 ^ j)):=f5
 clear f5
 have x0:m * 5 ^ j ≠ 0:=Nat.ne_of_gt (Nat.mul_pos m0 (Nat.pow_pos (by decide)))
 have HM:Hid (0<m∧m<2 ^ 64∧Fits 2 m∧Fits 210 (m * 5 ^ j)∧m * 5 ^ j ≠ 0):=⟨m0,hm,fM,fX.up (by omega),x0⟩
 clear fM fX x0
 obtain ⟨X,hX⟩:∃ X,X=m * 5 ^ j:=⟨_,rfl⟩
 rw [← hX] at HM
 have HX:Hid (X=m * 5 ^ j):=hX
 have F0:Hid (DcB (w.alloc (.cells #[.string ⟨#[]⟩,vI 0,.bool false] 41)) w.heap.size (.string ⟨#[]⟩) (vI 0) (.bool false)∧Bl w (w.alloc (.cells #[.string ⟨#[]⟩,vI 0,.bool false] 41))):=⟨DcB.new w _ _ _ _,bz _ _⟩
 clear hX
 go_enter Tryz.func44,Tryz.ntmps44
 go_wp2_with fail
 refine (SM _).mono ?_
 rintro o w1 ⟨v1,rfl,n1,b1⟩
 have F1:Hid (DcB w1 w.heap.size (.string ⟨#[]⟩) (vI 0) (.bool false)∧Bl w w1∧Big.NatV w1 v1 m):=⟨F0.out.1.step b1,F0.out.2.trans (b1.mono F0.out.2.size),n1⟩
 clear b1 n1 SM F0
 go_wp2_with fail
 all_goals first | (exfalso;omega) | skip
 try rw [Int.neg_neg]
 refine (RA _).mono ?_
 rintro o w2 ⟨v2,rfl,n2,b2⟩
 have F2:Hid (DcB w2 w.heap.size (.string ⟨#[]⟩) (vI 0) (.bool false)∧Bl w w2∧Big.NatV w2 v1 m∧Big.NatV w2 v2 (5 ^ j)):=⟨F1.out.1.step b2,F1.out.2.1.trans (b2.mono F1.out.2.1.size),F1.out.2.2.below b2,n2⟩
 have TM:=times_nat F2.out.2.2.1 F2.out.2.2.2 (HM.out.2.2.1.up (by omega)) (HF5.out.up (by omega))
 rw [← HX.out] at TM
 clear b2 n2 RA F1
 go_wp2_with fail
 all_goals first | (exfalso;omega) | skip
 refine TM.mono ?_
 rintro o w3 ⟨v3,rfl,n3,b3⟩
 have F3:Hid (DcB w3 w.heap.size (.string ⟨#[]⟩) (vI 0) (.bool false)∧Bl w w3∧Big.NatV w3 v3 X):=⟨F2.out.1.step b3,F2.out.2.1.trans (b3.mono F2.out.2.1.size),n3⟩
 clear b3 n3 TM F2
 have XB:X<B ^ 128:=by
  have z:=HM.out.2.2.2.1
  obtain ⟨k,a,b⟩:=z.up (show 210≤256 by omega)
  rw [BB_pow]
  exact Nat.lt_of_lt_of_le b (Nat.pow_le_pow_right Big.B_pos (by omega))
 have TL:=tell_any F3.out.2.2 HM.out.2.2.2.2 XB 10 (by decide) (by decide)
 simp only [Int.cast_ofNat_Int] at TL
 clear XB
 go_wp2_with fail
 all_goals first | (exfalso;omega) | skip
 refine TL.mono ?_
 rintro o w4 ⟨K,rfl,k1,k2,k3,b4⟩
 have F4:Hid (DcB w4 w.heap.size (.string ⟨#[]⟩) (vI 0) (.bool false)∧Bl w w4):=⟨F3.out.1.step b4,F3.out.2.1.trans (b4.mono F3.out.2.1.size)⟩
 clear b4 TL F3
 have rs:=rowText_size 10 X K
 have kN:K≤800:=len_dn HM.out.2.1 hj (by rw [← HX.out];exact k2)
 have kH:K≤j+500:=point_hi HM.out.2.1 (by rw [← HX.out];exact k2) rfl
 have kL:j≤K+500:=point_lo HM.out.1 hj (by rw [← HX.out];exact k3) rfl
 obtain ⟨u,hv,hq,MK⟩:=row_made (e:=-(j:Int)) k1 kN k2 k3 (by omega) (by omega)
 rw [show (- -(j:Int)).toNat=j from by omega,show (-(j:Int)).toNat=0 from by omega] at hq
 have VV:Hid (VN u ((K:Int) + -(j:Int)) false∧nrP ((K:Int) + -(j:Int))=(K:Int) + -(j:Int)∧vE (frN u ((K:Int) + -(j:Int))) (frD u ((K:Int) + -(j:Int))) 0 m (-(j:Int))):=⟨hv,by unfold nrP;rw [if_neg (by omega),if_neg (by omega)],val_dn HX.out hq⟩
 unfold dcV at MK
 clear hv hq k1 k2 k3 HM HX
 generalize rowText 10 X K=rt at *
 go_wp2_with fail
 refine (MK _).mono ?_
 rintro o w5 ⟨rfl,b5⟩
 have F5:Hid (DcB w5 w.heap.size (.string ⟨#[]⟩) (vI 0) (.bool false)∧Bl w w5):=⟨F4.out.1.step b5,F4.out.2.trans (b5.mono F4.out.2.size)⟩
 clear b5 F4 MK
 obtain ⟨l5,a0,a1,a2,f0,f1,f2⟩:=F5.out.1
 go_wp2
 exact bodyPost_ret (v:=.agg #[.string u,vI ((K:Int) + -(j:Int)),.bool false]) (by simp [results,Tryz.results44,go_sem,World.cell?_setCell_same,World.cell?_setCell_other, *]) rfl ⟨u,((K:Int) + -(j:Int)),rfl,VV.out.1,VV.out.2.1,VV.out.2.2,(((F5.out.2.setCell (Nat.le_refl _) _).setCell (Nat.le_refl _) _).setCell (Nat.le_refl _) _).alloc (by simpa using F5.out.2.size) _⟩
theorem tell_zero {w:World}{va:Value}(ha:Big.NatV w va 0) (b:Nat) :
 Cs 88 #[va,vI (b:Int)] w (.string ⟨#[48]⟩):=by
 obtain ⟨a0,l0,c0,k0,o0,f0,rfl,S0,t0,hv0⟩:=ha
 have hl0:l0=0:=by
  rcases Nat.eq_zero_or_pos l0 with q | q
  · exact q
  · have:=Big.Top_ge t0 q
    have:=Big.Bp_pos (l0 - 1)
    omega
 subst hl0
 clear S0 t0 hv0
 go_enter Tryz.func88,Tryz.ntmps88
 go_wp2
 go_ret
 exact ⟨rfl,rfl⟩
theorem rmake_zero {t:ByteArray}{p:Int}(hl:t.size≤801) (hd:DG t) {z:Nat}(hz:z=t.size) (hz1:∀ i,i<z → dgt t i=48) (w:World) :
 Cb 89 #[.string t,vI p,.bool false] w (.tuple #[dcV ⟨#[]⟩ 0 false,vI 0]):=by
 unfold dcV
 have D:=fun W=>rdig_yes t (by omega) hd W
 have HZ:Hid (∀ i,i<z → dgt t i=48):=hz1
 go_enter Tryz.func89,Tryz.ntmps89
 go_wp2_with fail
 refine (D _).mono ?_
 rintro e w0 ⟨rfl,rfl⟩
 go_wp2
 go_loop [8] (fun iv=>∃ k:Nat,iv=vI (k:Int)∧k≤z) (fun iv=>z - (intOf iv).toNat)
 case atStart=>exact ⟨0,rfl,Nat.zero_le _⟩
 case round =>
  obtain ⟨k,rfl,hk⟩:=hrel
  by_cases c0:k<z
  · have hks:k<t.size:=by omega
    have x0:((((t[k]'hks).toNat:Nat):Int) == 48)=true:=beq_iff_eq.mpr (by have:=HZ.out k c0;rw [dgt_lt hks] at this;omega)
    have i0:(k:Int)<(t.size:Int):=by omega
    have i1:(0:Int)≤(k:Int):=by omega
    have wk:IntKind.i64.wrap ((k:Int)+1)=(k:Int)+1:=by
     unfold IntKind.wrap
     simp [IntKind.bits,IntKind.signed]
     omega
    go_wp2
    go_round
    case rel=>exact ⟨k+1,by go_num,by omega⟩
    case measure=>simp [intOf] <;> omega
  · obtain rfl:z=k:=by omega
    have i0:¬ (z:Int)<(t.size:Int):=by omega
    have u0:t.extract z t.size=⟨#[]⟩:=by
     have e:=ext_size (s:=t) (k:=z) (by omega)
     apply size_zero
     omega
    have i2:(z:Int)≤(t.size:Int):=by omega
    have i3:(0:Int)≤(z:Int):=by omega
    go_wp2
    go_loop [0] (fun v=>v=.string ⟨#[]⟩) (fun _=>0)
    case atStart=>rfl
    case round =>
     subst hrel
     go_wp2
     refine bodyPost_ret (v:=.tuple #[.agg #[.string ⟨#[]⟩,vI 0,.bool false],vI 0]) (by simp [results,Tryz.results89,go_sem]) rfl ⟨rfl,?_⟩
     exact bz _ _
theorem dg_nought:DG ⟨#[48]⟩:=by
 intro k h
 have e:k=0:=by
  have:k<1:=h
  omega
 subst e
 exact ⟨by show 48≤(48:UInt8).toNat;decide,by show (48:UInt8).toNat≤57;decide⟩
theorem dgt_nought:∀ i,i<1 → dgt ⟨#[48]⟩ i=48:=by
 intro i hi
 have e:i=0:=by omega
 subst e
 decide
theorem decimal_zero (w:World):Cb 44 #[vU 0,vI 0] w (dcV ⟨#[]⟩ 0 false):=by
 have SM:=fun W=>small_nat 0 (by unfold B;decide) W
 simp only [Int.cast_ofNat_Int] at SM
 have F0:Hid (DcB (w.alloc (.cells #[.string ⟨#[]⟩,vI 0,.bool false] 41)) w.heap.size (.string ⟨#[]⟩) (vI 0) (.bool false)∧Bl w (w.alloc (.cells #[.string ⟨#[]⟩,vI 0,.bool false] 41))):=⟨DcB.new w _ _ _ _,bz _ _⟩
 have MK:=fun W=>rmake_zero (t:=⟨#[48]⟩) (p:=1) (by decide) dg_nought (z:=1) rfl dgt_nought W
 unfold dcV at MK ⊢
 go_enter Tryz.func44,Tryz.ntmps44
 go_wp2_with fail
 refine (SM _).mono ?_
 rintro o w1 ⟨v1,rfl,n1,b1⟩
 have F1:Hid (DcB w1 w.heap.size (.string ⟨#[]⟩) (vI 0) (.bool false)∧Bl w w1∧Big.NatV w1 v1 0):=⟨F0.out.1.step b1,F0.out.2.trans (b1.mono F0.out.2.size),n1⟩
 clear b1 n1 SM F0
 have UP:=up_any F1.out.2.2 ((two_fits (s:=0) (k:=1000) (by omega)).le (by omega)) 0 (by omega)
 rw [Nat.zero_mul] at UP
 simp only [Int.cast_ofNat_Int] at UP
 go_wp2_with fail
 refine UP.mono ?_
 rintro o w3 ⟨v3,rfl,n3,b3⟩
 have F3:Hid (DcB w3 w.heap.size (.string ⟨#[]⟩) (vI 0) (.bool false)∧Bl w w3∧Big.NatV w3 v3 0):=⟨F1.out.1.step b3,F1.out.2.1.trans (b3.mono F1.out.2.1.size),n3⟩
 clear b3 n3 UP F1
 have TL:=tell_zero F3.out.2.2 10
 simp only [Int.cast_ofNat_Int] at TL
 go_wp2_with fail
 refine TL.mono ?_
 rintro o w3 ⟨rfl,rfl⟩
 clear TL
 go_wp2_with fail
 refine (MK _).mono ?_
 rintro o w5 ⟨rfl,b5⟩
 have F5:Hid (DcB w5 w.heap.size (.string ⟨#[]⟩) (vI 0) (.bool false)∧Bl w w5):=⟨F3.out.1.step b5,F3.out.2.1.trans (b5.mono F3.out.2.1.size)⟩
 clear b5 F3 MK
 obtain ⟨l5,a0,a1,a2,f0,f1,f2⟩:=F5.out.1
 go_wp2
 exact bodyPost_ret (v:=.agg #[.string ⟨#[]⟩,vI 0,.bool false]) (by simp [results,Tryz.results44,go_sem,World.cell?_setCell_same,World.cell?_setCell_other, *]) rfl ⟨rfl,(((F5.out.2.setCell (Nat.le_refl _) _).setCell (Nat.le_refl _) _).setCell (Nat.le_refl _) _).alloc (by simpa using F5.out.2.size) _⟩
def DcX (u:ByteArray) (P:Int) (m:Nat) (x:Int):Prop:=(m=0∧u=⟨#[]⟩∧P=0) ∨ (0<m∧VN u P false∧nrP P=P∧vE (frN u P) (frD u P) 0 m x)
theorem decimal_any {m:Nat}(hm:m<18446744073709551616) {x:Int}(h0:-1075≤x) (h1:x≤1000) (hz:m=0 → x=0) (w:World) :
 Calls Tryz.prog 44 #[vU (m:Int),vI x] w fun e w'=>∃ u P,e=.returned (dcV u P false)∧DcX u P m x∧Bl w w':=by
 rcases Nat.eq_zero_or_pos m with z | z
 · subst z
   obtain rfl:=hz rfl
   refine (decimal_zero w).mono ?_
   rintro o w' ⟨rfl,hb⟩
   exact ⟨_,_,rfl,.inl ⟨rfl,rfl,rfl⟩,hb⟩
 · rcases Int.lt_or_le x 0 with c | c
   · obtain ⟨j,rfl⟩:∃ j:Nat,x = -(j:Int):=⟨(-x).toNat,by omega⟩
     refine (decimal_dn z hm (by omega) (by omega) w).mono ?_
     rintro o w' ⟨u,P,rfl,a,b,d,hb⟩
     exact ⟨u,P,rfl,.inr ⟨z,a,b,d⟩,hb⟩
   · obtain ⟨j,rfl⟩:∃ j:Nat,x=(j:Int):=⟨x.toNat,by omega⟩
     refine (decimal_up z hm (by omega) w).mono ?_
     rintro o w' ⟨u,P,rfl,a,b,d,hb⟩
     exact ⟨u,P,rfl,.inr ⟨z,a,b,d⟩,hb⟩
theorem uM_lim {s:Int}{g n f T:Nat}{L:Int}(hz:Fz s g n f T L) {m:Nat}(hm:m<n):uM n f m<9007199254740992 ∧ -1074≤uE n f L m∧uE n f L m≤971∧(uM n f m=0 → uE n f L m=0)∧(uM n f m=mt f m)∧(m ≠ 0 → uE n f L m=xp f L m):=by
 obtain ⟨p1,p2,p3⟩:=parts_lim hz hm
 unfold uM uE
 rcases cl_cases n m with ⟨q,k⟩ | ⟨q,_,k⟩ | ⟨_,q,k⟩ | ⟨q,k⟩
 · rw [k,if_neg (by decide),if_neg (by decide)]
   exact ⟨by decide,by decide,by decide,fun _=>rfl,by rw [q,mt_nought],fun z=>absurd q z⟩
 · rw [k,if_pos rfl,if_pos rfl]
   exact ⟨p1,p2,p3,fun z=>absurd z (mt_pos q),rfl,fun _=>rfl⟩
 · omega
 · omega
theorem exact16_ok {s:Int}{g n f T:Nat}{L:Int}(hz:Fz s g n f T L) {b:Nat}(hb:b<2 * g) (hm:mg g b<n) (w:World) :
 Calls Tryz.prog 22 #[vU (b:Int),vI s] w fun e w'=>∃ u P,e=.returned (.tuple #[dcV u P false,vI 0])∧DcX u P (uM n f (mg g b)) (uE n f L (mg g b))∧Bl w w':=by
 have UN:=fun W=>runp_z hz hb W
 have U:=uM_lim hz hm
 have u1:=U.1
 have u2:=U.2.1
 have u3:=U.2.2.1
 have u4:=U.2.2.2.1
 clear U
 have DC:=fun W=>decimal_any (m:=uM n f (mg g b)) (by omega) (by omega) (by omega) u4 W
 have c3:(cl n (mg g b) == 3)=false:=by rcases cl_cases n (mg g b) with ⟨_,k⟩ | ⟨_,_,k⟩ | ⟨_,q,k⟩ | ⟨q,k⟩ <;> first | (rw [k];decide) | omega
 have c4:(cl n (mg g b) == 4)=false:=by rcases cl_cases n (mg g b) with ⟨_,k⟩ | ⟨_,_,k⟩ | ⟨_,q,k⟩ | ⟨q,k⟩ <;> first | (rw [k];decide) | omega
 generalize uM n f (mg g b)=mm at *
 generalize uE n f L (mg g b)=xx at *
 generalize cl n (mg g b)=kk at *
 generalize uN g n b=nb at *
 clear hz hb hm u4
 have F0:Hid (DcB (w.alloc (.cells #[.string ⟨#[]⟩,vI 0,.bool false] 41)) w.heap.size (.string ⟨#[]⟩) (vI 0) (.bool false)∧Bl w (w.alloc (.cells #[.string ⟨#[]⟩,vI 0,.bool false] 41))):=⟨DcB.new w _ _ _ _,bz _ _⟩
 unfold dcV at *
 go_enter Tryz.func22,Tryz.ntmps22
 go_wp2_with fail
 refine (UN _).mono ?_
 rintro o w1 ⟨rfl,b1⟩
 have F1:Hid (DcB (w1.alloc (.cells #[.bool nb,vI kk,vU (mm:Int),vI xx] 93)) w.heap.size (.string ⟨#[]⟩) (vI 0) (.bool false)∧Bl w (w1.alloc (.cells #[.bool nb,vI kk,vU (mm:Int),vI xx] 93))):=⟨(F0.out.1.step b1).step (bz _ _),(F0.out.2.trans (b1.mono F0.out.2.size)).alloc (F0.out.2.trans (b1.mono F0.out.2.size)).size _⟩
 clear b1 F0 UN
 go_wp2_with fail
 refine (DC _).mono ?_
 rintro o w2 ⟨u,P,rfl,hx,b2⟩
 have F2:Hid (DcB w2 w.heap.size (.string ⟨#[]⟩) (vI 0) (.bool false)∧Bl w w2∧DcX u P mm xx):=⟨F1.out.1.step b2,F1.out.2.trans (b2.mono F1.out.2.size),hx⟩
 clear b2 F1 DC hx
 obtain ⟨l5,a0,a1,a2,f0,f1,f2⟩:=F2.out.1
 go_wp2
 exact bodyPost_ret (v:=.tuple #[.agg #[.string u,vI P,.bool false],vI 0]) (by simp [results,Tryz.results22,go_sem,World.cell?_setCell_same,World.cell?_setCell_other, *]) rfl ⟨u,P,rfl,F2.out.2.2,((F2.out.2.1.setCell (Nat.le_refl _) _).setCell (Nat.le_refl _) _).setCell (Nat.le_refl _) _⟩
theorem DcB.far {W:World}{K:Nat}{a b c:Value}(h:DcB W K a b c) (p:Addr) (v:Value) (n:K ≠ p.block):DcB (W.setCell p v) K a b c:=by
 have e:(W.setCell p v).heap[K]?=W.heap[K]?:=Below.heap_setCell W p v K n
 have k:=fun o=>World.cell?_of_block (w:=W) (w':=W.setCell p v) (a:=⟨K,o,none⟩) e
 have j:=fun o=>World.frozen?_of_block (w:=W) (w':=W.setCell p v) (a:=⟨K,o,none⟩) e
 have z:K<(W.setCell p v).heap.size:=by simpa using h.lt
 exact ⟨z,(k 0).trans h.a0,(k 1).trans h.a1,(k 2).trans h.a2,(j 0).trans h.f0,(j 1).trans h.f1,(j 2).trans h.f2⟩
theorem DcB.fill {W:World}{K:Nat}{a b c:Value}(h:DcB W K a b c) (x y z:Value):DcB (((W.setCell ⟨K,0,none⟩ x).setCell ⟨K,1,none⟩ y).setCell ⟨K,2,none⟩ z) K x y z:=by
 obtain ⟨l,a0,a1,a2,f0,f1,f2⟩:=h
 refine ⟨by simpa using l,?_,?_,?_,(World.frozen?_setCell ..).trans ((World.frozen?_setCell ..).trans ((World.frozen?_setCell ..).trans f0)),(World.frozen?_setCell ..).trans ((World.frozen?_setCell ..).trans ((World.frozen?_setCell ..).trans f1)),(World.frozen?_setCell ..).trans ((World.frozen?_setCell ..).trans ((World.frozen?_setCell ..).trans f2))⟩
 · exact (World.cell?_setCell_other _ ⟨K,2,none⟩ ⟨K,0,none⟩ z (by intro e;cases e)).trans ((World.cell?_setCell_other _ ⟨K,1,none⟩ ⟨K,0,none⟩ y (by intro e;cases e)).trans (World.cell?_setCell_same _ _ _ a0))
 · exact (World.cell?_setCell_other _ ⟨K,2,none⟩ ⟨K,1,none⟩ z (by intro e;cases e)).trans (World.cell?_setCell_same _ _ _ ((World.cell?_setCell_other _ ⟨K,0,none⟩ ⟨K,1,none⟩ x (by intro e;cases e)).trans a1))
 · exact World.cell?_setCell_same _ _ _ ((World.cell?_setCell_other _ ⟨K,1,none⟩ ⟨K,2,none⟩ y (by intro e;cases e)).trans ((World.cell?_setCell_other _ ⟨K,0,none⟩ ⟨K,2,none⟩ x (by intro e;cases e)).trans a2))
theorem DcB.al {W:World}{K:Nat}{a b c:Value}(h:DcB W K a b c) (o:Obj):DcB (W.alloc o) K a b c:=h.step (bz _ _)
theorem exact16_err {s b:Int}{x0:Bool}{x1 x2 x3 k:Int}(k0:(k == 0)=false) {w:World}
 (UN:∀ W,Cb 43 #[vU b,vI s] W (.tuple #[.agg #[.bool x0,vI x1,vU x2,vI x3],vI k])) :
 Cb 22 #[vU b,vI s] w (.tuple #[dcV ⟨#[]⟩ 0 false,vI k]):=by
 have F0:Hid (DcB (w.alloc (.cells #[.string ⟨#[]⟩,vI 0,.bool false] 41)) w.heap.size (.string ⟨#[]⟩) (vI 0) (.bool false)∧Bl w (w.alloc (.cells #[.string ⟨#[]⟩,vI 0,.bool false] 41))):=⟨DcB.new w _ _ _ _,bz _ _⟩
 unfold dcV at *
 go_enter Tryz.func22,Tryz.ntmps22
 go_wp2_with fail
 refine (UN _).mono ?_
 rintro o w1 ⟨rfl,b1⟩
 have F1:Hid (DcB w1 w.heap.size (.string ⟨#[]⟩) (vI 0) (.bool false)∧Bl w w1):=⟨F0.out.1.step b1,F0.out.2.trans (b1.mono F0.out.2.size)⟩
 clear b1 F0 UN
 obtain ⟨l5,a0,a1,a2,f0,f1,f2⟩:=F1.out.1
 go_wp2
 exact bodyPost_ret (v:=.tuple #[.agg #[.string ⟨#[]⟩,vI 0,.bool false],vI k]) (by simp [results,Tryz.results22,go_sem,World.cell?_setCell_same,World.cell?_setCell_other, *]) rfl ⟨rfl,((((F1.out.2.setCell (Nat.le_refl _) _).setCell (Nat.le_refl _) _).setCell (Nat.le_refl _) _).alloc (by simpa using F1.out.2.size) _)⟩
theorem exact16_inf {s b:Int}{x0:Bool}{x2 x3:Int}{w:World}
 (UN:∀ W,Cb 43 #[vU b,vI s] W (.tuple #[.agg #[.bool x0,vI 3,vU x2,vI x3],vI 0])) :
 Cb 22 #[vU b,vI s] w (.tuple #[dcV ⟨#[]⟩ 0 false,vI 1]):=by
 have F0:Hid (DcB (w.alloc (.cells #[.string ⟨#[]⟩,vI 0,.bool false] 41)) w.heap.size (.string ⟨#[]⟩) (vI 0) (.bool false)∧Bl w (w.alloc (.cells #[.string ⟨#[]⟩,vI 0,.bool false] 41))):=⟨DcB.new w _ _ _ _,bz _ _⟩
 unfold dcV at *
 go_enter Tryz.func22,Tryz.ntmps22
 go_wp2_with fail
 refine (UN _).mono ?_
 rintro o w1 ⟨rfl,b1⟩
 have F1:Hid (DcB w1 w.heap.size (.string ⟨#[]⟩) (vI 0) (.bool false)∧Bl w w1):=⟨F0.out.1.step b1,F0.out.2.trans (b1.mono F0.out.2.size)⟩
 clear b1 F0 UN
 obtain ⟨l5,a0,a1,a2,f0,f1,f2⟩:=F1.out.1
 go_wp2
 exact bodyPost_ret (v:=.tuple #[.agg #[.string ⟨#[]⟩,vI 0,.bool false],vI 1]) (by simp [results,Tryz.results22,go_sem,World.cell?_setCell_same,World.cell?_setCell_other, *]) rfl ⟨rfl,((((F1.out.2.setCell (Nat.le_refl _) _).setCell (Nat.le_refl _) _).setCell (Nat.le_refl _) _).alloc (by simpa using F1.out.2.size) _)⟩
theorem exact16_nan {s b:Int}{x0:Bool}{x2 x3:Int}{w:World}
 (UN:∀ W,Cb 43 #[vU b,vI s] W (.tuple #[.agg #[.bool x0,vI 4,vU x2,vI x3],vI 0])) :
 Cb 22 #[vU b,vI s] w (.tuple #[dcV ⟨#[]⟩ 0 false,vI 1]):=by
 have F0:Hid (DcB (w.alloc (.cells #[.string ⟨#[]⟩,vI 0,.bool false] 41)) w.heap.size (.string ⟨#[]⟩) (vI 0) (.bool false)∧Bl w (w.alloc (.cells #[.string ⟨#[]⟩,vI 0,.bool false] 41))):=⟨DcB.new w _ _ _ _,bz _ _⟩
 unfold dcV at *
 go_enter Tryz.func22,Tryz.ntmps22
 go_wp2_with fail
 refine (UN _).mono ?_
 rintro o w1 ⟨rfl,b1⟩
 have F1:Hid (DcB w1 w.heap.size (.string ⟨#[]⟩) (vI 0) (.bool false)∧Bl w w1):=⟨F0.out.1.step b1,F0.out.2.trans (b1.mono F0.out.2.size)⟩
 clear b1 F0 UN
 obtain ⟨l5,a0,a1,a2,f0,f1,f2⟩:=F1.out.1
 go_wp2
 exact bodyPost_ret (v:=.tuple #[.agg #[.string ⟨#[]⟩,vI 0,.bool false],vI 1]) (by simp [results,Tryz.results22,go_sem,World.cell?_setCell_same,World.cell?_setCell_other, *]) rfl ⟨rfl,((((F1.out.2.setCell (Nat.le_refl _) _).setCell (Nat.le_refl _) _).setCell (Nat.le_refl _) _).alloc (by simpa using F1.out.2.size) _)⟩
theorem above_zero {s:Int}{g n f T:Nat}{L:Int}(hz:Fz s g n f T L) (w:World) :
 Calls Tryz.prog 45 #[vU 0,vI s] w fun e w'=>∃ u P,e=.returned (dcV u P false)∧DcX u P (hM f 0) (hX f L 0)∧Bl w w':=by
 obtain ⟨en,hg,h2,g0⟩:=fz_parts hz
 have n0:0<n:=by rcases hz with ⟨_,_,rfl,_⟩ | ⟨_,_,rfl,_⟩ <;> decide
 have UN:=fun W=>runp_z hz (b:=0) (by omega) W
 rw [mg_self g0] at UN
 unfold uM uE at UN
 rw [cl_zero,if_neg (by decide),if_neg (by decide)] at UN
 simp only [Int.cast_ofNat_Int] at UN
 have DC:=fun W=>decimal_any (m:=1) (x:=L - 1) (by decide) (by rcases hz with ⟨_,_,_,_,_,rfl⟩ | ⟨_,_,_,_,_,rfl⟩ <;> decide) (by rcases hz with ⟨_,_,_,_,_,rfl⟩ | ⟨_,_,_,_,_,rfl⟩ <;> decide) (fun z=>absurd z (by decide)) W
 simp only [Int.cast_ofNat_Int] at DC
 have eH:hM f 0=1∧hX f L 0=L - 1:=by unfold hM hX;rw [mt_nought,xp_nought];exact ⟨rfl,rfl⟩
 rw [eH.1,eH.2]
 have hs:(s=32∧L = -149) ∨ (s=64∧L = -1074):=by rcases hz with ⟨rfl,_,_,_,_,rfl⟩ | ⟨rfl,_,_,_,_,rfl⟩ <;> simp
 generalize uN g n 0=nb at *
 clear eH en hg h2 g0 n0 hz
 have F0:Hid (DcB (w.alloc (.cells #[.string ⟨#[]⟩,vI 0,.bool false] 41)) w.heap.size (.string ⟨#[]⟩) (vI 0) (.bool false)∧Bl w (w.alloc (.cells #[.string ⟨#[]⟩,vI 0,.bool false] 41))):=⟨DcB.new w _ _ _ _,bz _ _⟩
 unfold dcV at *
 rcases hs with ⟨rfl,rfl⟩ | ⟨rfl,rfl⟩
 · go_enter Tryz.func45,Tryz.ntmps45
   go_wp2_with fail
   refine (UN _).mono ?_
   rintro o w1 ⟨rfl,b1⟩
   have F1:Hid (DcB w1 w.heap.size (.string ⟨#[]⟩) (vI 0) (.bool false)∧Bl w w1):=⟨F0.out.1.step b1,F0.out.2.trans (b1.mono F0.out.2.size)⟩
   clear b1 F0 UN
   have l1:=F1.out.1.lt
   rw [show (-149:Int) - 1 = -150 from rfl] at DC
   go_wp2_with fail
   refine (DC _).mono ?_
   rintro o w2 ⟨u,P,rfl,hx,b2⟩
   have F2:Hid (DcB w2 w.heap.size (.string ⟨#[]⟩) (vI 0) (.bool false)∧Bl w w2):=⟨(F1.out.1.al _).step b2,(F1.out.2.alloc F1.out.2.size _).trans (b2.mono (by have:=F1.out.2.size;simp;omega))⟩
   have HX:Hid _:=hx
   clear b2 F1 DC hx
   obtain ⟨l5,a0,a1,a2,f0,f1,f2⟩:=F2.out.1
   go_wp2
   exact bodyPost_ret (v:=.agg #[.string u,vI P,.bool false]) (by simp [results,Tryz.results45,go_sem,World.cell?_setCell_same,World.cell?_setCell_other, *]) rfl ⟨u,P,rfl,HX.out,((F2.out.2.setCell (Nat.le_refl _) _).setCell (Nat.le_refl _) _).setCell (Nat.le_refl _) _⟩
 · go_enter Tryz.func45,Tryz.ntmps45
   go_wp2_with fail
   refine (UN _).mono ?_
   rintro o w1 ⟨rfl,b1⟩
   have F1:Hid (DcB w1 w.heap.size (.string ⟨#[]⟩) (vI 0) (.bool false)∧Bl w w1):=⟨F0.out.1.step b1,F0.out.2.trans (b1.mono F0.out.2.size)⟩
   clear b1 F0 UN
   have l1:=F1.out.1.lt
   rw [show (-1074:Int) - 1 = -1075 from rfl] at DC
   go_wp2_with fail
   refine (DC _).mono ?_
   rintro o w2 ⟨u,P,rfl,hx,b2⟩
   have F2:Hid (DcB w2 w.heap.size (.string ⟨#[]⟩) (vI 0) (.bool false)∧Bl w w2):=⟨(F1.out.1.al _).step b2,(F1.out.2.alloc F1.out.2.size _).trans (b2.mono (by have:=F1.out.2.size;simp;omega))⟩
   have HX:Hid _:=hx
   clear b2 F1 DC hx
   obtain ⟨l5,a0,a1,a2,f0,f1,f2⟩:=F2.out.1
   go_wp2
   exact bodyPost_ret (v:=.agg #[.string u,vI P,.bool false]) (by simp [results,Tryz.results45,go_sem,World.cell?_setCell_same,World.cell?_setCell_other, *]) rfl ⟨u,P,rfl,HX.out,((F2.out.2.setCell (Nat.le_refl _) _).setCell (Nat.le_refl _) _).setCell (Nat.le_refl _) _⟩
theorem above_some {s:Int}{g n f T:Nat}{L:Int}(hz:Fz s g n f T L) {b:Nat}(b0:b ≠ 0) (hb:b<n) (w:World) :
 Calls Tryz.prog 45 #[vU (b:Int),vI s] w fun e w'=>∃ u P,e=.returned (dcV u P false)∧DcX u P (hM f b) (hX f L b)∧Bl w w':=by
 obtain ⟨en,hg,h2,g0⟩:=fz_parts hz
 have UN:=fun W=>runp_z hz (b:=b) (by omega) W
 rw [mg_self (show b<g by omega)] at UN
 have U:=uM_lim hz hb
 have eM:uM n f b=mt f b:=U.2.2.2.2.1
 have eX:uE n f L b=xp f L b:=U.2.2.2.2.2 b0
 obtain ⟨p1,p2,p3⟩:=parts_lim hz hb
 rw [eM,eX] at UN
 have DC:=fun W=>decimal_any (m:=2 * mt f b+1) (x:=xp f L b - 1) (by omega) (by omega) (by omega) (fun z=>absurd z (by omega)) W
 rw [show ((2 * mt f b+1:Nat):Int)=2 * (mt f b:Int)+1 from by omega] at DC
 have q0:((b:Int) == 0)=false:=by rw [beq_eq_false_iff_ne];omega
 unfold hM hX
 generalize uN g n b=nb at *
 generalize cl n b=kk at *
 generalize mt f b=mm at *
 generalize xp f L b=xx at *
 clear eM eX U en hg h2 g0 hz hb b0
 have F0:Hid (DcB (w.alloc (.cells #[.string ⟨#[]⟩,vI 0,.bool false] 41)) w.heap.size (.string ⟨#[]⟩) (vI 0) (.bool false)∧Bl w (w.alloc (.cells #[.string ⟨#[]⟩,vI 0,.bool false] 41))):=⟨DcB.new w _ _ _ _,bz _ _⟩
 unfold dcV at *
 go_enter Tryz.func45,Tryz.ntmps45
 go_wp2_with fail
 refine (UN _).mono ?_
 rintro o w1 ⟨rfl,b1⟩
 have F1:Hid (DcB w1 w.heap.size (.string ⟨#[]⟩) (vI 0) (.bool false)∧Bl w w1):=⟨F0.out.1.step b1,F0.out.2.trans (b1.mono F0.out.2.size)⟩
 clear b1 F0 UN
 have l1:=F1.out.1.lt
 go_wp2_with fail
 refine (DC _).mono ?_
 rintro o w2 ⟨u,P,rfl,hx,b2⟩
 have F2:Hid (DcB w2 w.heap.size (.string ⟨#[]⟩) (vI 0) (.bool false)∧Bl w w2):=⟨(F1.out.1.al _).step b2,(F1.out.2.alloc F1.out.2.size _).trans (b2.mono (by have:=F1.out.2.size;simp;omega))⟩
 have HX:Hid _:=hx
 clear b2 F1 DC hx
 obtain ⟨l5,a0,a1,a2,f0,f1,f2⟩:=F2.out.1
 go_wp2
 exact bodyPost_ret (v:=.agg #[.string u,vI P,.bool false]) (by simp [results,Tryz.results45,go_sem,World.cell?_setCell_same,World.cell?_setCell_other, *]) rfl ⟨u,P,rfl,HX.out,((F2.out.2.setCell (Nat.le_refl _) _).setCell (Nat.le_refl _) _).setCell (Nat.le_refl _) _⟩
theorem above_any {s:Int}{g n f T:Nat}{L:Int}(hz:Fz s g n f T L) {b:Nat}(hb:b<n) (w:World) :
 Calls Tryz.prog 45 #[vU (b:Int),vI s] w fun e w'=>∃ u P,e=.returned (dcV u P false)∧DcX u P (hM f b) (hX f L b)∧Bl w w':=by
 by_cases b0:b=0
 · subst b0
   exact above_zero hz w
 · exact above_some hz b0 hb w
theorem bounds16_err {s b k:Int}(k0:(k == 0)=false) {w:World}
 (EX:∀ W,Cb 22 #[vU b,vI s] W (.tuple #[dcV ⟨#[]⟩ 0 false,vI k])) :
 Cb 23 #[vU b,vI s] w (.tuple #[dcV ⟨#[]⟩ 0 false,dcV ⟨#[]⟩ 0 false,.bool false,vI k]):=by
 have F0:Hid (DcB ((w.alloc (.cells #[.string ⟨#[]⟩,vI 0,.bool false] 41)).alloc (.cells #[.string ⟨#[]⟩,vI 0,.bool false] 41)) w.heap.size (.string ⟨#[]⟩) (vI 0) (.bool false)∧DcB ((w.alloc (.cells #[.string ⟨#[]⟩,vI 0,.bool false] 41)).alloc (.cells #[.string ⟨#[]⟩,vI 0,.bool false] 41)) (w.heap.size+1) (.string ⟨#[]⟩) (vI 0) (.bool false)∧Bl w ((w.alloc (.cells #[.string ⟨#[]⟩,vI 0,.bool false] 41)).alloc (.cells #[.string ⟨#[]⟩,vI 0,.bool false] 41))):=⟨(DcB.new w _ _ _ _).al _,by have q:=DcB.new (w.alloc (.cells #[.string ⟨#[]⟩,vI 0,.bool false] 41)) (.string ⟨#[]⟩) (vI 0) (.bool false) 41;simpa using q,(bz _ _).alloc (by simp) _⟩
 unfold dcV at *
 go_enter Tryz.func23,Tryz.ntmps23
 go_wp2_with fail
 refine (EX _).mono ?_
 rintro o w1 ⟨rfl,b1⟩
 have F1:Hid (DcB w1 w.heap.size (.string ⟨#[]⟩) (vI 0) (.bool false)∧DcB w1 (w.heap.size+1) (.string ⟨#[]⟩) (vI 0) (.bool false)∧Bl w w1):=⟨F0.out.1.step b1,F0.out.2.1.step b1,F0.out.2.2.trans (b1.mono F0.out.2.2.size)⟩
 clear b1 F0 EX
 obtain ⟨l5,a0,a1,a2,f0,f1,f2⟩:=F1.out.1
 obtain ⟨l6,c0,c1,c2,g0,g1,g2⟩:=F1.out.2.1
 go_wp2
 exact bodyPost_ret (v:=.tuple #[.agg #[.string ⟨#[]⟩,vI 0,.bool false],.agg #[.string ⟨#[]⟩,vI 0,.bool false],.bool false,vI k]) (by simp [results,Tryz.results23,go_sem,World.cell?_setCell_same,World.cell?_setCell_other, *]) rfl ⟨rfl,((((((F1.out.2.2.setCell (Nat.le_refl _) _).setCell (Nat.le_refl _) _).setCell (Nat.le_refl _) _).setCell (Nat.le_succ _) _).setCell (Nat.le_succ _) _).setCell (Nat.le_succ _) _).alloc (by simpa using F1.out.2.2.size) _⟩
theorem bounds16_zero {s:Int}{g n f T:Nat}{L:Int}(hz:Fz s g n f T L) {c:Nat}(hc:c<2 * g) (ec:mg g c=0) {w:World} :
 Calls Tryz.prog 23 #[vU (c:Int),vI s] w fun e w'=>∃ u P u' P',e=.returned (.tuple #[dcV u P false,dcV u' P' false,.bool true,vI 0])∧(u=⟨#[]⟩∧P=0)∧DcX u' P' (hM f 0) (hX f L 0)∧Bl w w':=by
 obtain ⟨en,hg,h2,g0⟩:=fz_parts hz
 have n0:0<n:=by rcases hz with ⟨_,_,rfl,_⟩ | ⟨_,_,rfl,_⟩ <;> decide
 have EX:=fun W=>exact16_ok hz (b:=c) hc (by rw [ec];omega) W
 have MG:=fun W=>rmag_z hz (b:=c) hc W
 rw [ec] at MG
 have AH:=fun W=>above_any hz (b:=0) (by omega) W
 simp only [Int.cast_ofNat_Int] at MG AH
 obtain ⟨RH,hRH⟩:∃ RH:ByteArray → Int → Prop,RH=fun u P=>DcX u P (hM f 0) (hX f L 0):=⟨_,rfl⟩
 have HRH:Hid (∀ u P,RH u P ↔ DcX u P (hM f 0) (hX f L 0)):=fun u P=>by rw [hRH]
 have AH2:∀ W,Calls Tryz.prog 45 #[vU 0,vI s] W fun e w'=>∃ u P,e=.returned (dcV u P false)∧RH u P∧Bl W w':=fun W=>by rw [hRH];exact AH W
 have EX2:∀ W,Calls Tryz.prog 22 #[vU (c:Int),vI s] W fun e w'=>∃ u P,e=.returned (.tuple #[dcV u P false,vI 0])∧Bl W w':=fun W=>(EX W).mono fun _ _ ⟨u,P,h1,_,h3⟩=>⟨u,P,h1,h3⟩
 have c9:c<18446744073709551616:=by omega
 clear AH EX hRH en hg h2 g0 n0 hz hc ec
 have F0:Hid (DcB ((w.alloc (.cells #[.string ⟨#[]⟩,vI 0,.bool false] 41)).alloc (.cells #[.string ⟨#[]⟩,vI 0,.bool false] 41)) w.heap.size (.string ⟨#[]⟩) (vI 0) (.bool false)∧DcB ((w.alloc (.cells #[.string ⟨#[]⟩,vI 0,.bool false] 41)).alloc (.cells #[.string ⟨#[]⟩,vI 0,.bool false] 41)) (w.heap.size+1) (.string ⟨#[]⟩) (vI 0) (.bool false)∧Bl w ((w.alloc (.cells #[.string ⟨#[]⟩,vI 0,.bool false] 41)).alloc (.cells #[.string ⟨#[]⟩,vI 0,.bool false] 41))):=⟨(DcB.new w _ _ _ _).al _,by have q:=DcB.new (w.alloc (.cells #[.string ⟨#[]⟩,vI 0,.bool false] 41)) (.string ⟨#[]⟩) (vI 0) (.bool false) 41;simpa using q,(bz _ _).alloc (by simp) _⟩
 unfold dcV at *
 go_enter Tryz.func23,Tryz.ntmps23
 go_wp2_with fail
 refine (EX2 _).mono ?_
 rintro o w1 ⟨ue,Pe,rfl,b1⟩
 have F1:Hid (DcB (w1.alloc (.cells #[.string ue,vI Pe,.bool false] 41)) w.heap.size (.string ⟨#[]⟩) (vI 0) (.bool false)∧DcB (w1.alloc (.cells #[.string ue,vI Pe,.bool false] 41)) (w.heap.size+1) (.string ⟨#[]⟩) (vI 0) (.bool false)∧Bl w (w1.alloc (.cells #[.string ue,vI Pe,.bool false] 41))):=⟨(F0.out.1.step b1).al _,(F0.out.2.1.step b1).al _,(F0.out.2.2.trans (b1.mono F0.out.2.2.size)).alloc (F0.out.2.2.trans (b1.mono F0.out.2.2.size)).size _⟩
 clear b1 F0 EX2
 go_wp2_with fail
 refine (MG _).mono ?_
 rintro o w2 ⟨rfl,rfl⟩
 clear MG
 have nl:w.heap.size+1<w1.heap.size+1:=by have:=F1.out.2.1.lt;simpa using this
 have F3:Hid (DcB ((w1.alloc (.cells #[.string ue,vI Pe,.bool false] 41)).alloc (.cells #[.string ⟨#[]⟩,vI 0,.bool false] 41)) w.heap.size (.string ⟨#[]⟩) (vI 0) (.bool false)∧DcB ((w1.alloc (.cells #[.string ue,vI Pe,.bool false] 41)).alloc (.cells #[.string ⟨#[]⟩,vI 0,.bool false] 41)) (w.heap.size+1) (.string ⟨#[]⟩) (vI 0) (.bool false)∧Bl w ((w1.alloc (.cells #[.string ue,vI Pe,.bool false] 41)).alloc (.cells #[.string ⟨#[]⟩,vI 0,.bool false] 41))∧DcB ((w1.alloc (.cells #[.string ue,vI Pe,.bool false] 41)).alloc (.cells #[.string ⟨#[]⟩,vI 0,.bool false] 41)) (w1.heap.size+1) (.string ⟨#[]⟩) (vI 0) (.bool false)):=⟨F1.out.1.al _,F1.out.2.1.al _,F1.out.2.2.alloc F1.out.2.2.size _,by have q:=DcB.new (w1.alloc (.cells #[.string ue,vI Pe,.bool false] 41)) (.string ⟨#[]⟩) (vI 0) (.bool false) 41;simpa using q⟩
 clear F1
 go_upto_region 8 with fail
 generalize (w1.alloc (.cells #[.string ue,vI Pe,.bool false] 41)).alloc (.cells #[.string ⟨#[]⟩,vI 0,.bool false] 41)=v at *
 have F4:Hid (DcB v.drew w.heap.size (.string ⟨#[]⟩) (vI 0) (.bool false)∧DcB v.drew (w.heap.size+1) (.string ⟨#[]⟩) (vI 0) (.bool false)∧Bl w v.drew∧DcB v.drew (w1.heap.size+1) (.string ⟨#[]⟩) (vI 0) (.bool false)):=⟨F3.out.1.step (Below.refl _ _).drew,F3.out.2.1.step (Below.refl _ _).drew,F3.out.2.2.1.drew,F3.out.2.2.2.step (Below.refl _ _).drew⟩
 obtain ⟨k1,_,_,_,f0,f1,f2⟩:=F3.out.1
 obtain ⟨k2,_,_,_,g0,g1,g2⟩:=F3.out.2.1
 obtain ⟨k3,l0,l1,l2,_,_,_⟩:=F3.out.2.2.2
 go_region_held3 (fun w'=>w'.cell? ⟨w1.heap.size+1,0,none⟩=some (.string ⟨#[]⟩)∧w'.cell? ⟨w1.heap.size+1,1,none⟩=some (vI 0)∧w'.cell? ⟨w1.heap.size+1,2,none⟩=some (.bool false)∧w'.frozen? ⟨w.heap.size,0,none⟩=false∧w'.frozen? ⟨w.heap.size,1,none⟩=false∧w'.frozen? ⟨w.heap.size,2,none⟩=false∧w'.frozen? ⟨w.heap.size+1,0,none⟩=false∧w'.frozen? ⟨w.heap.size+1,1,none⟩=false∧w'.frozen? ⟨w.heap.size+1,2,none⟩=false) (simp [*,go_sem,World.cell?_setCell_other])
  (first
   | (go_at_call 45;refine (AH2 _).mono ?_;rintro o w5 ⟨uh,Ph,rfl,hh,b5⟩;have HH:Hid (RH uh Ph):=hh;have F7:Hid (DcB w5 w.heap.size (.string ⟨#[]⟩) (vI 0) (.bool false)∧DcB w5 (w.heap.size+1) (.string ⟨#[]⟩) (vI 0) (.bool false)∧Bl w w5∧DcB w5 (w1.heap.size+1) (.string ⟨#[]⟩) (vI 0) (.bool false)):=⟨F4.out.1.step b5,F4.out.2.1.step b5,F4.out.2.2.1.trans (b5.mono F4.out.2.2.1.size),F4.out.2.2.2.step b5⟩;clear b5 hh;obtain ⟨h1,p0,p1,p2,fa0,fa1,fa2⟩:=F7.out.1;obtain ⟨h2,r0,r1,r2,ga0,ga1,ga2⟩:=F7.out.2.1;obtain ⟨h3,s0,s1,s2,_,_,_⟩:=F7.out.2.2.2))
 go_wp2
 exact bodyPost_ret (v:=.tuple #[.agg #[.string ⟨#[]⟩,vI 0,.bool false],.agg #[.string uh,vI Ph,.bool false],.bool true,vI 0]) (by simp [results,Tryz.results23,go_sem,World.cell?_setCell_same,World.cell?_setCell_other, *]) rfl ⟨⟨#[]⟩,0,uh,Ph,rfl,⟨rfl,rfl⟩,(HRH.out _ _).1 HH.out,(((((F7.out.2.2.1.setCell (Nat.le_refl _) _).setCell (Nat.le_refl _) _).setCell (Nat.le_refl _) _).setCell (Nat.le_succ _) _).setCell (Nat.le_succ _) _).setCell (Nat.le_succ _) _⟩
theorem bounds16_some {s:Int}{g n f T:Nat}{L:Int}(hz:Fz s g n f T L) {b:Nat}(b0:b ≠ 0) (hb:b<n) {c:Nat}(hc:c<2 * g) (ec:mg g c=b) {w:World} :
 Calls Tryz.prog 23 #[vU (c:Int),vI s] w fun e w'=>∃ u P u' P',e=.returned (.tuple #[dcV u P false,dcV u' P' false,.bool (decide (b % 2=0)),vI 0])∧DcX u P (hM f (b - 1)) (hX f L (b - 1))∧DcX u' P' (hM f b) (hX f L b)∧Bl w w':=by
 obtain ⟨en,hg,h2,g0⟩:=fz_parts hz
 have n0:0<n:=by rcases hz with ⟨_,_,rfl,_⟩ | ⟨_,_,rfl,_⟩ <;> decide
 have EX:=fun W=>exact16_ok hz (b:=c) hc (by rw [ec];omega) W
 have MG:=fun W=>rmag_z hz (b:=c) hc W
 rw [ec] at MG
 have AH:=fun W=>above_any hz (b:=b) (by omega) W
 have AL:=fun W=>above_any hz (b:=b - 1) (by omega) W
 rw [show ((b - 1:Nat):Int)=(b:Int) - 1 from by omega] at AL
 have q0:(0:Int)<(b:Int):=by omega
 have q1:b<18446744073709551616:=by omega
 obtain ⟨RL,hRL⟩:∃ RL:ByteArray → Int → Prop,RL=fun u P=>DcX u P (hM f (b - 1)) (hX f L (b - 1)):=⟨_,rfl⟩
 have HRL:Hid (∀ u P,RL u P ↔ DcX u P (hM f (b - 1)) (hX f L (b - 1))):=fun u P=>by rw [hRL]
 have AL2:∀ W,Calls Tryz.prog 45 #[vU ((b:Int) - 1),vI s] W fun e w'=>∃ u P,e=.returned (dcV u P false)∧RL u P∧Bl W w':=fun W=>by rw [hRL];exact AL W
 clear AL hRL
 obtain ⟨RH,hRH⟩:∃ RH:ByteArray → Int → Prop,RH=fun u P=>DcX u P (hM f b) (hX f L b):=⟨_,rfl⟩
 have HRH:Hid (∀ u P,RH u P ↔ DcX u P (hM f b) (hX f L b)):=fun u P=>by rw [hRH]
 have AH2:∀ W,Calls Tryz.prog 45 #[vU (b:Int),vI s] W fun e w'=>∃ u P,e=.returned (dcV u P false)∧RH u P∧Bl W w':=fun W=>by rw [hRH];exact AH W
 have EX2:∀ W,Calls Tryz.prog 22 #[vU (c:Int),vI s] W fun e w'=>∃ u P,e=.returned (.tuple #[dcV u P false,vI 0])∧Bl W w':=fun W=>(EX W).mono fun _ _ ⟨u,P,h1,_,h3⟩=>⟨u,P,h1,h3⟩
 have c9:c<18446744073709551616:=by omega
 clear AH EX hRH en hg h2 g0 n0 hz hc ec hb b0
 have F0:Hid (DcB ((w.alloc (.cells #[.string ⟨#[]⟩,vI 0,.bool false] 41)).alloc (.cells #[.string ⟨#[]⟩,vI 0,.bool false] 41)) w.heap.size (.string ⟨#[]⟩) (vI 0) (.bool false)∧DcB ((w.alloc (.cells #[.string ⟨#[]⟩,vI 0,.bool false] 41)).alloc (.cells #[.string ⟨#[]⟩,vI 0,.bool false] 41)) (w.heap.size+1) (.string ⟨#[]⟩) (vI 0) (.bool false)∧Bl w ((w.alloc (.cells #[.string ⟨#[]⟩,vI 0,.bool false] 41)).alloc (.cells #[.string ⟨#[]⟩,vI 0,.bool false] 41))):=⟨(DcB.new w _ _ _ _).al _,by have q:=DcB.new (w.alloc (.cells #[.string ⟨#[]⟩,vI 0,.bool false] 41)) (.string ⟨#[]⟩) (vI 0) (.bool false) 41;simpa using q,(bz _ _).alloc (by simp) _⟩
 unfold dcV at *
 go_enter Tryz.func23,Tryz.ntmps23
 go_wp2_with fail
 refine (EX2 _).mono ?_
 rintro o w1 ⟨ue,Pe,rfl,b1⟩
 have F1:Hid (DcB (w1.alloc (.cells #[.string ue,vI Pe,.bool false] 41)) w.heap.size (.string ⟨#[]⟩) (vI 0) (.bool false)∧DcB (w1.alloc (.cells #[.string ue,vI Pe,.bool false] 41)) (w.heap.size+1) (.string ⟨#[]⟩) (vI 0) (.bool false)∧Bl w (w1.alloc (.cells #[.string ue,vI Pe,.bool false] 41))):=⟨(F0.out.1.step b1).al _,(F0.out.2.1.step b1).al _,(F0.out.2.2.trans (b1.mono F0.out.2.2.size)).alloc (F0.out.2.2.trans (b1.mono F0.out.2.2.size)).size _⟩
 clear b1 F0 EX2
 go_wp2_with fail
 refine (MG _).mono ?_
 rintro o w2 ⟨rfl,rfl⟩
 clear MG
 have nl:w.heap.size+1<w1.heap.size+1:=by have:=F1.out.2.1.lt;simpa using this
 have F3:Hid (DcB ((w1.alloc (.cells #[.string ue,vI Pe,.bool false] 41)).alloc (.cells #[.string ⟨#[]⟩,vI 0,.bool false] 41)) w.heap.size (.string ⟨#[]⟩) (vI 0) (.bool false)∧DcB ((w1.alloc (.cells #[.string ue,vI Pe,.bool false] 41)).alloc (.cells #[.string ⟨#[]⟩,vI 0,.bool false] 41)) (w.heap.size+1) (.string ⟨#[]⟩) (vI 0) (.bool false)∧Bl w ((w1.alloc (.cells #[.string ue,vI Pe,.bool false] 41)).alloc (.cells #[.string ⟨#[]⟩,vI 0,.bool false] 41))∧DcB ((w1.alloc (.cells #[.string ue,vI Pe,.bool false] 41)).alloc (.cells #[.string ⟨#[]⟩,vI 0,.bool false] 41)) (w1.heap.size+1) (.string ⟨#[]⟩) (vI 0) (.bool false)):=⟨F1.out.1.al _,F1.out.2.1.al _,F1.out.2.2.alloc F1.out.2.2.size _,by have q:=DcB.new (w1.alloc (.cells #[.string ue,vI Pe,.bool false] 41)) (.string ⟨#[]⟩) (vI 0) (.bool false) 41;simpa using q⟩
 clear F1
 go_wp2_with fail
 all_goals first | (exfalso;omega) | skip
 refine (AL2 _).mono ?_
 rintro o w3 ⟨ul,Pl,rfl,hl,b3⟩
 have HL:Hid (RL ul Pl):=hl
 have F5:Hid (DcB w3 w.heap.size (.string ⟨#[]⟩) (vI 0) (.bool false)∧DcB w3 (w.heap.size+1) (.string ⟨#[]⟩) (vI 0) (.bool false)∧Bl w w3∧DcB w3 (w1.heap.size+1) (.string ⟨#[]⟩) (vI 0) (.bool false)):=⟨F3.out.1.step b3,F3.out.2.1.step b3,F3.out.2.2.1.trans (b3.mono F3.out.2.2.1.size),F3.out.2.2.2.step b3⟩
 clear b3 F3 hl AL2
 obtain ⟨m3,l0,l1,l2,e0,e1,e2⟩:=F5.out.2.2.2
 go_upto_region 8 with fail
 have F6:Hid (DcB (((w3.setCell ⟨w1.heap.size+1,0,none⟩ (.string ul)).setCell ⟨w1.heap.size+1,1,none⟩ (vI Pl)).setCell ⟨w1.heap.size+1,2,none⟩ (.bool false)) w.heap.size (.string ⟨#[]⟩) (vI 0) (.bool false)∧DcB (((w3.setCell ⟨w1.heap.size+1,0,none⟩ (.string ul)).setCell ⟨w1.heap.size+1,1,none⟩ (vI Pl)).setCell ⟨w1.heap.size+1,2,none⟩ (.bool false)) (w.heap.size+1) (.string ⟨#[]⟩) (vI 0) (.bool false)∧Bl w (((w3.setCell ⟨w1.heap.size+1,0,none⟩ (.string ul)).setCell ⟨w1.heap.size+1,1,none⟩ (vI Pl)).setCell ⟨w1.heap.size+1,2,none⟩ (.bool false))∧DcB (((w3.setCell ⟨w1.heap.size+1,0,none⟩ (.string ul)).setCell ⟨w1.heap.size+1,1,none⟩ (vI Pl)).setCell ⟨w1.heap.size+1,2,none⟩ (.bool false)) (w1.heap.size+1) (.string ul) (vI Pl) (.bool false)):=⟨((F5.out.1.far _ _ (by show w.heap.size ≠ w1.heap.size+1;omega)).far _ _ (by show w.heap.size ≠ w1.heap.size+1;omega)).far _ _ (by show w.heap.size ≠ w1.heap.size+1;omega),((F5.out.2.1.far _ _ (by show w.heap.size+1 ≠ w1.heap.size+1;omega)).far _ _ (by show w.heap.size+1 ≠ w1.heap.size+1;omega)).far _ _ (by show w.heap.size+1 ≠ w1.heap.size+1;omega),((F5.out.2.2.1.setCell (by show w.heap.size≤w1.heap.size+1;omega) _).setCell (by show w.heap.size≤w1.heap.size+1;omega) _).setCell (by show w.heap.size≤w1.heap.size+1;omega) _,F5.out.2.2.2.fill _ _ _⟩
 clear l0 l1 l2 e0 e1 e2 m3 F5
 generalize ((w3.setCell ⟨w1.heap.size+1,0,none⟩ (.string ul)).setCell ⟨w1.heap.size+1,1,none⟩ (vI Pl)).setCell ⟨w1.heap.size+1,2,none⟩ (.bool false)=v at *
 have F4:Hid (DcB v.drew w.heap.size (.string ⟨#[]⟩) (vI 0) (.bool false)∧DcB v.drew (w.heap.size+1) (.string ⟨#[]⟩) (vI 0) (.bool false)∧Bl w v.drew∧DcB v.drew (w1.heap.size+1) (.string ul) (vI Pl) (.bool false)):=⟨F6.out.1.step (Below.refl _ _).drew,F6.out.2.1.step (Below.refl _ _).drew,F6.out.2.2.1.drew,F6.out.2.2.2.step (Below.refl _ _).drew⟩
 obtain ⟨k1,_,_,_,f0,f1,f2⟩:=F6.out.1
 obtain ⟨k2,_,_,_,g0,g1,g2⟩:=F6.out.2.1
 obtain ⟨k3,l0,l1,l2,_,_,_⟩:=F6.out.2.2.2
 go_region_held3 (fun w'=>w'.cell? ⟨w1.heap.size+1,0,none⟩=some (.string ul)∧w'.cell? ⟨w1.heap.size+1,1,none⟩=some (vI Pl)∧w'.cell? ⟨w1.heap.size+1,2,none⟩=some (.bool false)∧w'.frozen? ⟨w.heap.size,0,none⟩=false∧w'.frozen? ⟨w.heap.size,1,none⟩=false∧w'.frozen? ⟨w.heap.size,2,none⟩=false∧w'.frozen? ⟨w.heap.size+1,0,none⟩=false∧w'.frozen? ⟨w.heap.size+1,1,none⟩=false∧w'.frozen? ⟨w.heap.size+1,2,none⟩=false) (simp [*,go_sem,World.cell?_setCell_other])
  (first
   | (go_at_call 45;refine (AH2 _).mono ?_;rintro o w5 ⟨uh,Ph,rfl,hh,b5⟩;have HH:Hid (RH uh Ph):=hh;have F7:Hid (DcB w5 w.heap.size (.string ⟨#[]⟩) (vI 0) (.bool false)∧DcB w5 (w.heap.size+1) (.string ⟨#[]⟩) (vI 0) (.bool false)∧Bl w w5∧DcB w5 (w1.heap.size+1) (.string ul) (vI Pl) (.bool false)):=⟨F4.out.1.step b5,F4.out.2.1.step b5,F4.out.2.2.1.trans (b5.mono F4.out.2.2.1.size),F4.out.2.2.2.step b5⟩;clear b5 hh;obtain ⟨h1,p0,p1,p2,fa0,fa1,fa2⟩:=F7.out.1;obtain ⟨h2,r0,r1,r2,ga0,ga1,ga2⟩:=F7.out.2.1;obtain ⟨h3,s0,s1,s2,_,_,_⟩:=F7.out.2.2.2))
 go_wp2
 have par:∀ k:Nat,((k:Int).tmod 2 == 0)=decide (k % 2=0):=fun k=>by
  rw [Int.tmod_eq_emod_of_nonneg (by omega),Bool.eq_iff_iff,beq_iff_eq,decide_eq_true_iff]
  omega
 exact bodyPost_ret (v:=.tuple #[.agg #[.string ul,vI Pl,.bool false],.agg #[.string uh,vI Ph,.bool false],.bool ((b:Int).tmod 2 == 0),vI 0]) (by simp [results,Tryz.results23,go_sem,World.cell?_setCell_same,World.cell?_setCell_other, *]) rfl ⟨ul,Pl,uh,Ph,by rw [par b],(HRL.out _ _).1 HL.out,(HRH.out _ _).1 HH.out,(((((F7.out.2.2.1.setCell (Nat.le_refl _) _).setCell (Nat.le_refl _) _).setCell (Nat.le_refl _) _).setCell (Nat.le_succ _) _).setCell (Nat.le_succ _) _).setCell (Nat.le_succ _) _⟩
end Go.Proofs.YteeobndfnkeldaaGreatDoor
