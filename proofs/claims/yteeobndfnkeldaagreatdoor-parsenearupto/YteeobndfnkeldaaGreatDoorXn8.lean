/-
  Holds: UEwE UCoM UCrA UCqM.
-/
import Derived.Laws.BitsAllLaws
import Derived.Test.YteeobndfnkeldaaGreatDoorChecked
import Derived.Lib.ItoaNum
import Derived.Laws.Externs
import Derived.WalkKit
import Derived.WalkSpells
import Derived.WalkLawsBesides
import Derived.Lib.Mul64
import Derived.Lib.TrailingZeros
import Derived.Deep.OwnRows
import Derived.Laws.CopyOwn
import Derived.BigQuiet
import Derived.Deep.RegionHeld3
import Derived.Deep.LoopGhost
import Derived.Deep.AppendLies
import Derived.Deep.DeepCutAuto
import Derived.Stop.Asserts
import Derived.RowKitTokens
import Derived.Lib.Strings
import Derived.Lib.BufferWrite
import Derived.Lib.ConvBytes
import Derived.Test.YteeobndfnkeldaaGreatDoorXn6
import Derived.Test.YteeobndfnkeldaaGreatDoorXn7
set_option maxRecDepth 100000
set_option maxHeartbeats 4000000
namespace Go.Proofs.YteeobndfnkeldaaGreatDoor
open Go.RowKit
structure DcB (W:World) (K:Nat) (a b c:Value):Prop where
 lt:K<W.heap.size
 a0:W.cell? ⟨K,0,none⟩=some a
 a1:W.cell? ⟨K,1,none⟩=some b
 a2:W.cell? ⟨K,2,none⟩=some c
 f0:W.frozen? ⟨K,0,none⟩=false
 f1:W.frozen? ⟨K,1,none⟩=false
 f2:W.frozen? ⟨K,2,none⟩=false
theorem DcB.step {W W':World}{K:Nat}{a b c:Value}(h:DcB W K a b c) (hb:Bl W W'):DcB W' K a b c:=by
 have k:=fun o=>hb.cell (p:=⟨K,o,none⟩) h.lt
 have j:=fun o=>hb.frozen (p:=⟨K,o,none⟩) h.lt
 exact ⟨Nat.lt_of_lt_of_le h.lt hb.size,(k 0).trans h.a0,(k 1).trans h.a1,(k 2).trans h.a2,(j 0).trans h.f0,(j 1).trans h.f1,(j 2).trans h.f2⟩
theorem DcB.new (W:World) (a b c:Value) (T:TypeId):DcB (W.alloc (.cells #[a,b,c] T)) W.heap.size a b c :=
 ⟨by simp,by simp,by simp,by simp,World.frozen?_alloc_new _ _ _ _,World.frozen?_alloc_new _ _ _ _,World.frozen?_alloc_new _ _ _ _⟩
def nrP (p:Int):Int:=if 500<p then 500 else if p < -500 then -500 else p
theorem nrP_in (p:Int):-500≤nrP p∧nrP p≤500:=by unfold nrP;split <;> (try split) <;> omega
theorem near14 {s:ByteArray}(hs:0<s.size) (p:Int) (c:Bool) (w:World):Cb 80 #[dcV s p c] w (dcV s (nrP p) c):=by
 have hE:=empty_false hs
 unfold dcV nrP
 by_cases c1:500<p
 · rw [if_pos c1]
   have c2:(-500:Int)<500:=by decide
   go_enter Tryz.func80,Tryz.ntmps80
   go_wp2
   refine bodyPost_ret (v:=.agg #[.string s,vI 500,.bool c]) (by simp [results,Tryz.results80,go_sem]) rfl ⟨rfl,(bz _ _).alloc (by simp) _⟩
 · rw [if_neg c1]
   have c2:p≤500:=by omega
   by_cases c3:p < -500
   · rw [if_pos c3]
     have c4:p ≤ -500:=by omega
     go_enter Tryz.func80,Tryz.ntmps80
     go_wp2
     refine bodyPost_ret (v:=.agg #[.string s,vI (-500),.bool c]) (by simp [results,Tryz.results80,go_sem]) rfl ⟨rfl,(bz _ _).alloc (by simp) _⟩
   · rw [if_neg c3]
     by_cases c5:p = -500
     · subst c5
       go_enter Tryz.func80,Tryz.ntmps80
       go_wp2
       refine bodyPost_ret (v:=.agg #[.string s,vI (-500),.bool c]) (by simp [results,Tryz.results80,go_sem]) rfl ⟨rfl,(bz _ _).alloc (by simp) _⟩
     · have c4:-500<p:=by omega
       go_enter Tryz.func80,Tryz.ntmps80
       go_wp2
       refine bodyPost_ret (v:=.agg #[.string s,vI p,.bool c]) (by simp [results,Tryz.results80,go_sem]) rfl ⟨rfl,(bz _ _).alloc (by simp) _⟩
theorem frac_up {s:ByteArray}(hs:s.size≤801) (hd:DG s) {p:Int}(c:Bool) (h1:p≤500) {k:Nat}(hk:p=(s.size:Int)+k) (w:World):Calls Tryz.prog 79 #[dcV s p c] w fun e w'=>∃ v1 v2,e=.returned (.tuple #[v1,v2])∧Big.NatV w' v1 (dvA s 0 s.size * 10 ^ k)∧Big.NatV w' v2 1∧Bl w w':=by
 have T0:=fun W=>dig14 hs hd W
 have T1:=fun W=>raised_far 10 k (by decide) (by decide) (by omega) W
 rw [show ((10:Nat):Int)=10 from rfl] at T1
 have T2:=fun W=>small_nat 1 (by unfold B;decide) W
 rw [show ((1:Nat):Int)=1 from rfl] at T2
 have FF:Hid (Fits 1000 (dvA s 0 s.size)∧Fits 1000 (10 ^ k)):=⟨dvA_fits hd (by omega),fits_far (by decide) (by omega)⟩
 have ek:p - (s.size:Int)=(k:Int):=by omega
 have k0:(0:Int)≤(k:Int):=by omega
 clear hk hd
 unfold dcV
 go_enter Tryz.func79,Tryz.ntmps79
 go_wp2_with fail
 refine (T0 _).mono ?_
 rintro e w1 ⟨v1,rfl,n1,b1⟩
 have D1:Hid (DcB w1 w.heap.size (.string s) (vI p) (.bool c)):=(DcB.new w _ _ _ _).step b1
 have N1:Hid (Big.NatV w1 v1 (dvA s 0 s.size)∧Bl w w1):=⟨n1,(bz _ _).trans (b1.mono (by simp))⟩
 clear n1 b1 T0
 obtain ⟨_,a0,a1,a2,_,_,_⟩:=D1.out
 go_wp2_with fail
 refine (T1 _).mono ?_
 rintro e w2 ⟨v2,rfl,n2,b2⟩
 have N2:Hid (Big.NatV w2 v2 (10 ^ k)∧Big.NatV w2 v1 (dvA s 0 s.size)∧Bl w w2):=⟨n2,N1.out.1.below b2,N1.out.2.trans (b2.mono N1.out.2.size)⟩
 clear n2 b2 T1 N1 a0 a1 a2 D1
 have T:=times_nat N2.out.2.1 N2.out.1 FF.out.1 FF.out.2
 go_wp2_with fail
 refine T.mono ?_
 rintro e w3 ⟨v3,rfl,n3,b3⟩
 have N3:Hid (Big.NatV w3 v3 (dvA s 0 s.size * 10 ^ k)∧Bl w w3):=⟨n3,N2.out.2.2.trans (b3.mono N2.out.2.2.size)⟩
 clear n3 b3 T N2
 go_wp2_with fail
 refine (T2 _).mono ?_
 rintro e w4 ⟨v4,rfl,n4,b4⟩
 have N4:Hid (Big.NatV w4 v3 (dvA s 0 s.size * 10 ^ k)∧Big.NatV w4 v4 1∧Bl w w4):=⟨N3.out.1.below b4,n4,N3.out.2.trans (b4.mono N3.out.2.size)⟩
 clear n4 b4 T2 N3
 go_wp2
 exact bodyPost_ret (v:=.tuple #[v3,v4]) (by simp [results,Tryz.results79,go_sem]) rfl ⟨v3,v4,rfl,N4.out.1,N4.out.2.1,N4.out.2.2⟩
theorem frac_dn {s:ByteArray}(hs:s.size≤801) (hd:DG s) {p:Int}(c:Bool) {k:Nat}(k0:0<k) (k9:k≤2400) (hk:(s.size:Int)=p+k) (w:World):Calls Tryz.prog 79 #[dcV s p c] w fun e w'=>∃ v1 v2,e=.returned (.tuple #[v1,v2])∧Big.NatV w' v1 (dvA s 0 s.size)∧Big.NatV w' v2 (10 ^ k)∧Bl w w':=by
 have T0:=fun W=>dig14 hs hd W
 have T1:=fun W=>raised_far 10 k (by decide) (by decide) k9 W
 rw [show ((10:Nat):Int)=10 from rfl] at T1
 have ek:p - (s.size:Int) = -(k:Int):=by omega
 have k1:¬ (0:Int) ≤ -(k:Int):=by omega
 have p1:-9000000000≤p∧p≤801:=by omega
 clear hk hd k0
 unfold dcV
 go_enter Tryz.func79,Tryz.ntmps79
 go_wp2_with fail
 refine (T0 _).mono ?_
 rintro e w1 ⟨v1,rfl,n1,b1⟩
 have D1:Hid (DcB w1 w.heap.size (.string s) (vI p) (.bool c)):=(DcB.new w _ _ _ _).step b1
 have N1:Hid (Big.NatV w1 v1 (dvA s 0 s.size)∧Bl w w1):=⟨n1,(bz _ _).trans (b1.mono (by simp))⟩
 clear n1 b1 T0
 obtain ⟨_,a0,a1,a2,_,_,_⟩:=D1.out
 go_wp2_with fail
 refine (T1 _).mono ?_
 rintro e w2 ⟨v2,rfl,n2,b2⟩
 have N2:Hid (Big.NatV w2 v2 (10 ^ k)∧Big.NatV w2 v1 (dvA s 0 s.size)∧Bl w w2):=⟨n2,N1.out.1.below b2,N1.out.2.trans (b2.mono N1.out.2.size)⟩
 clear n2 b2 T1 N1 a0 a1 a2 D1
 go_wp2
 exact bodyPost_ret (v:=.tuple #[v1,v2]) (by simp [results,Tryz.results79,go_sem]) rfl ⟨v1,v2,rfl,N2.out.2.1,N2.out.1,N2.out.2.2⟩
def frN (s:ByteArray) (p:Int):Nat:=dvA s 0 s.size * 10 ^ (p - s.size).toNat
def frD (s:ByteArray) (p:Int):Nat:=10 ^ ((s.size:Int) - p).toNat
theorem frac14 {s:ByteArray}(hs:s.size≤801) (hd:DG s) {p:Int}(c:Bool) (h0:-500≤p) (h1:p≤500) (w:World):Calls Tryz.prog 79 #[dcV s p c] w fun e w'=>∃ v1 v2,e=.returned (.tuple #[v1,v2])∧Big.NatV w' v1 (frN s p)∧Big.NatV w' v2 (frD s p)∧Bl w w':=by
 unfold frN frD
 by_cases q:(s.size:Int)≤p
 · obtain ⟨k,hk⟩:∃ k:Nat,p=(s.size:Int)+k:=⟨(p - s.size).toNat,by omega⟩
   rw [show (p - (s.size:Int)).toNat=k from by omega,show ((s.size:Int) - p).toNat=0 from by omega,Nat.pow_zero]
   exact frac_up hs hd c h1 hk w
 · obtain ⟨k,hk⟩:∃ k:Nat,(s.size:Int)=p+k:=⟨((s.size:Int) - p).toNat,by omega⟩
   rw [show (p - (s.size:Int)).toNat=0 from by omega,show ((s.size:Int) - p).toNat=k from by omega,Nat.pow_zero,Nat.mul_one]
   exact frac_dn hs hd c (by omega) (by omega) hk w
theorem frN_fits {s:ByteArray}(hs:s.size≤801) (hd:DG s) {p:Int}(h1:p≤500):Fits 256 (frN s p):=by
 unfold frN
 have a:=dvA_lt hd 0 s.size
 refine fits_ten (k:=s.size+(p - s.size).toNat) ?_ (by omega)
 rw [Nat.pow_add]
 exact Nat.mul_le_mul_right _ (Nat.le_of_lt a)
theorem frD_fits {s:ByteArray}(hs:s.size≤801) {p:Int}(h0:-500≤p):Fits 256 (frD s p):=fits_ten (Nat.le_refl _) (by omega)
theorem dvA_pos {s:ByteArray}(hd:DG s) (hf:dgt s 0 ≠ 48) {k:Nat}(hk:0<k):0<dvA s 0 k:=by
 obtain ⟨j,rfl⟩:∃ j,k=1+j:=⟨k - 1,by omega⟩
 rw [dvA_add]
 have:=dgt_dg hd 0
 have e:dvA s 0 1=dgt s 0 - 48:=by rw [dvA_succ,Nat.add_zero];show 0 * 10+_=_;omega
 have:=Nat.mul_pos (show 0<dvA s 0 1 by omega) (Nat.pow_pos (n:=j) (show 0<10 by decide))
 omega
theorem VN.val {s:ByteArray}{p:Int}{c:Bool}(h:VN s p c):0<dvA s 0 s.size:=dvA_pos h.dg (by rw [dgt_lt h.pos];exact h.first) h.pos
end Go.Proofs.YteeobndfnkeldaaGreatDoor
namespace Go.Proofs.YteeobndfnkeldaaGreatDoor
theorem dvA_ge {s:ByteArray}(hd:DG s) (hf:dgt s 0 ≠ 48) {k:Nat}(hk:0<k):10 ^ (k - 1)≤dvA s 0 k:=by
 obtain ⟨j,rfl⟩:∃ j,k=1+j:=⟨k - 1,by omega⟩
 rw [dvA_add,show 1+j - 1=j from by omega]
 have a:=dgt_dg hd 0
 have e:dvA s 0 1=dgt s 0 - 48:=by rw [dvA_succ];show 0 * 10+(dgt s (0+0) - 48)=_;rw [Nat.add_zero];omega
 have b:1≤dvA s 0 1:=by rw [e];omega
 have c:=Nat.mul_le_mul_right (10 ^ j) b
 omega
theorem VN.ge {s:ByteArray}{p:Int}{c:Bool}(h:VN s p c):10 ^ (s.size - 1)≤dvA s 0 s.size:=dvA_ge h.dg (by rw [dgt_lt h.pos];exact h.first) h.pos
theorem fr_far_up {s:ByteArray}{q p:Int}{c:Bool}(h:VN s q c) (k:Nat) (hp:(k:Int)+1≤p):frD s p * 10 ^ k≤frN s p:=by
 unfold frN frD
 have z:=h.pos
 refine Nat.le_trans ?_ (Nat.mul_le_mul_right _ h.ge)
 rw [← Nat.pow_add,← Nat.pow_add]
 exact Nat.pow_le_pow_right (by decide) (by omega)
theorem fr_far_dn {s:ByteArray}{q p:Int}{c:Bool}(h:VN s q c) (k:Nat) (hp:p ≤ -(k:Int)):frN s p * 10 ^ k<frD s p:=by
 unfold frN frD
 have a:=dvA_lt h.dg 0 s.size
 rw [show (p - (s.size:Int)).toNat=0 from by omega,Nat.pow_zero,Nat.mul_one]
 have b:=Nat.mul_lt_mul_of_pos_right a (Nat.pow_pos (n:=k) (show 0<10 by decide))
 refine Nat.lt_of_lt_of_le b ?_
 rw [← Nat.pow_add]
 exact Nat.pow_le_pow_right (by decide) (by omega)
theorem far_lo {nn dd N D A B:Nat}(hA:A<B) (hD:0<D) (hd:0<dd) (h:dd * B≤nn) (k:N≤D * A):N * dd<nn * D:=by
 have a:=Nat.mul_le_mul_right dd k
 have b:D * A * dd<D * B * dd:=Nat.mul_lt_mul_of_pos_right (Nat.mul_lt_mul_of_pos_left hA hD) hd
 have c:=Nat.mul_le_mul_right D h
 have e:D * B * dd=dd * B * D:=by rw [Nat.mul_assoc,Nat.mul_comm D,Nat.mul_comm B dd]
 omega
theorem far_hi {nn dd N D A B:Nat}(hA:A≤B) (hN:0<N) (h:nn * B<dd) (k:D≤N * A):nn * D<N * dd:=by
 have a:=Nat.mul_le_mul_left nn k
 have b:nn * (N * A)≤nn * (N * B):=Nat.mul_le_mul_left nn (Nat.mul_le_mul_left N hA)
 have c:=Nat.mul_lt_mul_of_pos_left h hN
 have e:nn * (N * B)=N * (nn * B):=Nat.mul_left_comm _ _ _
 omega
theorem Frc.within {N D m:Nat}{x:Int}(h:Frc N D m x) {k a:Nat}(hm:m<2 ^ k) (ha:k≤a) (x1:x+k≤a):N≤D * 2 ^ a:=by
 have h':=h.1
 rcases Int.lt_or_le x 0 with c | c
 · have q:=h'.at x (by omega) (Int.le_refl _)
   rw [ev_self] at q
   unfold ev at q
   have b:D * m≤D * 2 ^ a:=Nat.mul_le_mul_left D (Nat.le_trans (Nat.le_of_lt hm) (Nat.pow_le_pow_right (by decide) ha))
   rw [← q] at b
   exact Nat.le_trans (Nat.le_mul_of_pos_right _ (Nat.two_pow_pos _)) b
 · have q:=h'.at 0 (Int.le_refl _) c
   rw [ev_self] at q
   unfold ev at q
   rw [q]
   refine Nat.mul_le_mul_left D ?_
   refine Nat.le_trans (Nat.mul_le_mul_right _ (Nat.le_of_lt hm)) ?_
   rw [← Nat.pow_add]
   exact Nat.pow_le_pow_right (by decide) (by omega)
theorem Frc.above {N D m:Nat}{x:Int}(h:Frc N D m x) {a:Nat}(m0:0<m) (x1:-(a:Int)≤x):D≤N * 2 ^ a:=by
 have h':=h.1
 rcases Int.lt_or_le x 0 with c | c
 · have q:=h'.at x (by omega) (Int.le_refl _)
   rw [ev_self] at q
   unfold ev at q
   refine Nat.le_trans (Nat.le_mul_of_pos_right D m0) ?_
   rw [← q]
   exact Nat.mul_le_mul_left N (Nat.pow_le_pow_right (by decide) (by omega))
 · have q:=h'.at 0 (Int.le_refl _) c
   rw [ev_self] at q
   unfold ev at q
   rw [q]
   refine Nat.le_trans ?_ (Nat.le_mul_of_pos_right _ (Nat.two_pow_pos _))
   exact Nat.le_mul_of_pos_right D (Nat.mul_pos m0 (Nat.two_pow_pos _))
def oc (n d:Nat) (c:Bool) (N D:Nat):Int:=if ord (n * D) (N * d)=0∧c=true then 1 else ord (n * D) (N * d)
theorem oc_gt {n d N D:Nat}{c:Bool}(h:N * d<n * D):oc n d c N D=1:=by
 have e:ord (n * D) (N * d)=1:=by unfold ord;rw [if_neg (by omega),if_pos h]
 unfold oc
 rw [e,if_neg (by omega)]
theorem oc_lt {n d N D:Nat}{c:Bool}(h:n * D<N * d):oc n d c N D = -1:=by
 have e:ord (n * D) (N * d) = -1:=by unfold ord;rw [if_pos h]
 unfold oc
 rw [e,if_neg (by omega)]
theorem oc_eq {n d N D:Nat}{c:Bool}(h:n * D=N * d):oc n d c N D=if c then 1 else 0:=by
 have e:ord (n * D) (N * d)=0:=by unfold ord;rw [if_neg (by omega),if_neg (by omega)]
 unfold oc
 rw [e]
 cases c <;> simp
theorem oc_nought {s:ByteArray}{q p:Int}{c:Bool}(h:VN s q c) {D:Nat}(D0:0<D) (b:Bool):oc (frN s p) (frD s p) b 0 D=1:=by
 apply oc_gt
 rw [Nat.zero_mul]
 exact Nat.mul_pos (Nat.mul_pos h.val (Nat.pow_pos (by decide))) D0
theorem up_oc {f:Nat}{L:Int}{n d N D b:Nat}{c:Bool}(h:Frc N D (hM f b) (hX f L b)) (D0:0<D):Up f L n d 0 c b ↔ (oc n d c N D = -1 ∨ (oc n d c N D=0∧b % 2=0)):=by
 obtain ⟨c1,c2⟩:=frc_cmp (n:=n) (d:=d) h D0
 unfold Up
 rw [c1,c2]
 rcases Nat.lt_trichotomy (n * D) (N * d) with z | z | z
 · rw [oc_lt z]
   constructor
   · intro _;exact .inl rfl
   · intro _;exact .inl z
 · rw [oc_eq z]
   cases c
   · constructor
     · rintro (y | ⟨_,y,_⟩)
       · omega
       · exact .inr ⟨rfl,y⟩
     · rintro (y | ⟨_,y⟩)
       · simp at y
       · exact .inr ⟨z,y,rfl⟩
   · constructor
     · rintro (y | ⟨_,_,y⟩)
       · omega
       · cases y
     · rintro (y | ⟨y,_⟩)
       · simp at y
       · simp at y
 · rw [oc_gt z]
   constructor
   · rintro (y | ⟨y,_⟩) <;> omega
   · rintro (y | ⟨y,_⟩) <;> omega
theorem oc_cases (n d:Nat) (c:Bool) (N D:Nat):oc n d c N D = -1 ∨ oc n d c N D=0 ∨ oc n d c N D=1:=by
 rcases Nat.lt_trichotomy (n * D) (N * d) with z | z | z
 · exact .inl (oc_lt z)
 · rw [oc_eq z]
   cases c
   · exact .inr (.inl rfl)
   · exact .inr (.inr rfl)
 · exact .inr (.inr (oc_gt z))
theorem dn_oc {f:Nat}{L:Int}{n d N D b:Nat}{c:Bool}(_b0:b ≠ 0) (h:Frc N D (hM f (b - 1)) (hX f L (b - 1))) (D0:0<D) (u:¬ Up f L n d 0 c (b - 1)):oc n d c N D=1 ∨ (oc n d c N D=0∧b % 2=0):=by
 rw [up_oc h D0] at u
 rcases oc_cases n d c N D with z | z | z
 · exact absurd (.inl z) u
 · exact .inr ⟨z,by
    have:¬ ((b - 1) % 2=0):=fun y=>u (.inr ⟨z,y⟩)
    omega⟩
 · exact .inl z
end Go.Proofs.YteeobndfnkeldaaGreatDoor
namespace Go.Proofs.YteeobndfnkeldaaGreatDoor
open Go.RowKit
theorem rcheck_z {s:Int}{g n f T:Nat}{L:Int}(h:Fz s g n f T L) {b:Nat}(hb:b<2 * g) (w:World):Cs 73 #[vU (b:Int),vI s] w (vI 0):=by
 rcases h with ⟨rfl,rfl,rfl,rfl,rfl,rfl⟩ | ⟨rfl,rfl,rfl,rfl,rfl,rfl⟩
 · exact rcheck_32 hb w
 · exact rcheck_64 _ w
theorem rmag_z {s:Int}{g n f T:Nat}{L:Int}(h:Fz s g n f T L) {b:Nat}(hb:b<2 * g) (w:World):Cs 18 #[vU (b:Int),vI s] w (vU ((mg g b:Nat):Int)):=by
 rcases h with ⟨rfl,rfl,rfl,rfl,rfl,rfl⟩ | ⟨rfl,rfl,rfl,rfl,rfl,rfl⟩
 · exact rmag_32 hb w
 · exact rmag_64 hb w
theorem rof_z {s:Int}{g n f T:Nat}{L:Int}(h:Fz s g n f T L) {b:Nat}(hb:b<2 * g) (w:World):Cs 74 #[vU (b:Int),vI s] w (vI (cl n (mg g b))):=by
 rcases h with ⟨rfl,rfl,rfl,rfl,rfl,rfl⟩ | ⟨rfl,rfl,rfl,rfl,rfl,rfl⟩
 · exact rof_32 hb w
 · exact rof_64 hb w
theorem mg_self {g b:Nat}(h:b<g):mg g b=b:=Nat.mod_eq_of_lt h
theorem asked_bad {s:Int}{t:ByteArray}{p:Int}{c:Bool}{b:Nat}  (i:Bool) (w:World)
 (SZ:∀ W,Cs 15 #[vI s] W (.bool true))
 (VA:∀ W,Cb 72 #[dcV t p c] W (vI 1))
 : Cb 39 #[dcV t p c,vU (b:Int),vI s,.bool i] w (vI 1):=by
 unfold dcV at *
 have B0:Hid (Bl w (w.alloc (.cells #[.string t,vI p,.bool c] 41))):=bz _ _
 go_enter Tryz.func39,Tryz.ntmps39
 go_wp2_with fail
 refine (SZ _).mono ?_
 rintro o w1 ⟨rfl,rfl⟩
 go_wp2_with fail
 refine (VA _).mono ?_
 rintro o w1 ⟨rfl,b1⟩
 have B1:Hid (Bl w w1):=B0.out.trans (b1.mono B0.out.size)
 clear b1 B0 SZ VA
 go_wp2
 go_ret
 exact ⟨rfl,B1.out⟩
theorem asked_ck {s:Int}{t:ByteArray}{p:Int}{c:Bool}{b:Nat}  (i:Bool) (w:World)
 (SZ:∀ W,Cs 15 #[vI s] W (.bool true))
 (VA:∀ W,Cb 72 #[dcV t p c] W (vI 0))
 (CK:∀ W,Cs 73 #[vU (b:Int),vI s] W (vI 1))
 : Cb 39 #[dcV t p c,vU (b:Int),vI s,.bool i] w (vI 1):=by
 unfold dcV at *
 have B0:Hid (Bl w (w.alloc (.cells #[.string t,vI p,.bool c] 41))):=bz _ _
 go_enter Tryz.func39,Tryz.ntmps39
 go_wp2_with fail
 refine (SZ _).mono ?_
 rintro o w1 ⟨rfl,rfl⟩
 go_wp2_with fail
 refine (VA _).mono ?_
 rintro o w1 ⟨rfl,b1⟩
 have B1:Hid (Bl w w1):=B0.out.trans (b1.mono B0.out.size)
 clear b1 B0 SZ VA
 go_wp2_with fail
 refine (CK _).mono ?_
 rintro o w1 ⟨rfl,rfl⟩
 go_wp2
 go_ret
 exact ⟨rfl,B1.out⟩
theorem asked_sg {s:Int}{t:ByteArray}{p:Int}{c:Bool}{b:Nat}{m:Nat}(hm:((m:Int) == (b:Int))=false) (i:Bool) (w:World)
 (SZ:∀ W,Cs 15 #[vI s] W (.bool true))
 (VA:∀ W,Cb 72 #[dcV t p c] W (vI 0))
 (CK:∀ W,Cs 73 #[vU (b:Int),vI s] W (vI 0))
 (MG:∀ W,Cs 18 #[vU (b:Int),vI s] W (vU (m:Int)))
 : Cb 39 #[dcV t p c,vU (b:Int),vI s,.bool i] w (vI 1):=by
 unfold dcV at *
 have B0:Hid (Bl w (w.alloc (.cells #[.string t,vI p,.bool c] 41))):=bz _ _
 go_enter Tryz.func39,Tryz.ntmps39
 go_wp2_with fail
 refine (SZ _).mono ?_
 rintro o w1 ⟨rfl,rfl⟩
 go_wp2_with fail
 refine (VA _).mono ?_
 rintro o w1 ⟨rfl,b1⟩
 have B1:Hid (Bl w w1):=B0.out.trans (b1.mono B0.out.size)
 clear b1 B0 SZ VA
 go_wp2_with fail
 refine (CK _).mono ?_
 rintro o w1 ⟨rfl,rfl⟩
 go_wp2_with fail
 refine (MG _).mono ?_
 rintro o w1 ⟨rfl,rfl⟩
 go_wp2
 go_ret
 exact ⟨rfl,B1.out⟩
theorem asked_nan {s:Int}{t:ByteArray}{p:Int}{c:Bool}{b:Nat}  (i:Bool) (w:World)
 (SZ:∀ W,Cs 15 #[vI s] W (.bool true))
 (VA:∀ W,Cb 72 #[dcV t p c] W (vI 0))
 (CK:∀ W,Cs 73 #[vU (b:Int),vI s] W (vI 0))
 (MG:∀ W,Cs 18 #[vU (b:Int),vI s] W (vU (b:Int)))
 (CL:∀ W,Cs 74 #[vU (b:Int),vI s] W (vI 4))
 : Cb 39 #[dcV t p c,vU (b:Int),vI s,.bool i] w (vI 1):=by
 unfold dcV at *
 have B0:Hid (Bl w (w.alloc (.cells #[.string t,vI p,.bool c] 41))):=bz _ _
 go_enter Tryz.func39,Tryz.ntmps39
 go_wp2_with fail
 refine (SZ _).mono ?_
 rintro o w1 ⟨rfl,rfl⟩
 go_wp2_with fail
 refine (VA _).mono ?_
 rintro o w1 ⟨rfl,b1⟩
 have B1:Hid (Bl w w1):=B0.out.trans (b1.mono B0.out.size)
 clear b1 B0 SZ VA
 go_wp2_with fail
 refine (CK _).mono ?_
 rintro o w1 ⟨rfl,rfl⟩
 go_wp2_with fail
 refine (MG _).mono ?_
 rintro o w1 ⟨rfl,rfl⟩
 go_wp2_with fail
 refine (CL _).mono ?_
 rintro o w1 ⟨rfl,rfl⟩
 go_wp2
 go_ret
 exact ⟨rfl,B1.out⟩
theorem asked_inf0 {s:Int}{t:ByteArray}{p:Int}{c:Bool}{b:Nat}  (w:World)
 (SZ:∀ W,Cs 15 #[vI s] W (.bool true))
 (VA:∀ W,Cb 72 #[dcV t p c] W (vI 0))
 (CK:∀ W,Cs 73 #[vU (b:Int),vI s] W (vI 0))
 (MG:∀ W,Cs 18 #[vU (b:Int),vI s] W (vU (b:Int)))
 (CL:∀ W,Cs 74 #[vU (b:Int),vI s] W (vI 3))
 : Cb 39 #[dcV t p c,vU (b:Int),vI s,.bool false] w (vI 1):=by
 unfold dcV at *
 have B0:Hid (Bl w (w.alloc (.cells #[.string t,vI p,.bool c] 41))):=bz _ _
 go_enter Tryz.func39,Tryz.ntmps39
 go_wp2_with fail
 refine (SZ _).mono ?_
 rintro o w1 ⟨rfl,rfl⟩
 go_wp2_with fail
 refine (VA _).mono ?_
 rintro o w1 ⟨rfl,b1⟩
 have B1:Hid (Bl w w1):=B0.out.trans (b1.mono B0.out.size)
 clear b1 B0 SZ VA
 go_wp2_with fail
 refine (CK _).mono ?_
 rintro o w1 ⟨rfl,rfl⟩
 go_wp2_with fail
 refine (MG _).mono ?_
 rintro o w1 ⟨rfl,rfl⟩
 go_wp2_with fail
 refine (CL _).mono ?_
 rintro o w1 ⟨rfl,rfl⟩
 go_wp2
 go_ret
 exact ⟨rfl,B1.out⟩
theorem asked_inf1 {s:Int}{t:ByteArray}{p:Int}{c:Bool}{b:Nat}  (w:World)
 (SZ:∀ W,Cs 15 #[vI s] W (.bool true))
 (VA:∀ W,Cb 72 #[dcV t p c] W (vI 0))
 (CK:∀ W,Cs 73 #[vU (b:Int),vI s] W (vI 0))
 (MG:∀ W,Cs 18 #[vU (b:Int),vI s] W (vU (b:Int)))
 (CL:∀ W,Cs 74 #[vU (b:Int),vI s] W (vI 3))
 : Cb 39 #[dcV t p c,vU (b:Int),vI s,.bool true] w (vI 0):=by
 unfold dcV at *
 have B0:Hid (Bl w (w.alloc (.cells #[.string t,vI p,.bool c] 41))):=bz _ _
 go_enter Tryz.func39,Tryz.ntmps39
 go_wp2_with fail
 refine (SZ _).mono ?_
 rintro o w1 ⟨rfl,rfl⟩
 go_wp2_with fail
 refine (VA _).mono ?_
 rintro o w1 ⟨rfl,b1⟩
 have B1:Hid (Bl w w1):=B0.out.trans (b1.mono B0.out.size)
 clear b1 B0 SZ VA
 go_wp2_with fail
 refine (CK _).mono ?_
 rintro o w1 ⟨rfl,rfl⟩
 go_wp2_with fail
 refine (MG _).mono ?_
 rintro o w1 ⟨rfl,rfl⟩
 go_wp2_with fail
 refine (CL _).mono ?_
 rintro o w1 ⟨rfl,rfl⟩
 go_wp2
 go_ret
 exact ⟨rfl,B1.out⟩
theorem asked_yes {s:Int}{t:ByteArray}{p:Int}{c:Bool}{b:Nat}{l:Int}(l3:(l == 3)=false) (l4:(l == 4)=false) (i:Bool) (w:World)
 (SZ:∀ W,Cs 15 #[vI s] W (.bool true))
 (VA:∀ W,Cb 72 #[dcV t p c] W (vI 0))
 (CK:∀ W,Cs 73 #[vU (b:Int),vI s] W (vI 0))
 (MG:∀ W,Cs 18 #[vU (b:Int),vI s] W (vU (b:Int)))
 (CL:∀ W,Cs 74 #[vU (b:Int),vI s] W (vI l))
 : Cb 39 #[dcV t p c,vU (b:Int),vI s,.bool i] w (vI 0):=by
 unfold dcV at *
 have B0:Hid (Bl w (w.alloc (.cells #[.string t,vI p,.bool c] 41))):=bz _ _
 go_enter Tryz.func39,Tryz.ntmps39
 go_wp2_with fail
 refine (SZ _).mono ?_
 rintro o w1 ⟨rfl,rfl⟩
 go_wp2_with fail
 refine (VA _).mono ?_
 rintro o w1 ⟨rfl,b1⟩
 have B1:Hid (Bl w w1):=B0.out.trans (b1.mono B0.out.size)
 clear b1 B0 SZ VA
 go_wp2_with fail
 refine (CK _).mono ?_
 rintro o w1 ⟨rfl,rfl⟩
 go_wp2_with fail
 refine (MG _).mono ?_
 rintro o w1 ⟨rfl,rfl⟩
 go_wp2_with fail
 refine (CL _).mono ?_
 rintro o w1 ⟨rfl,rfl⟩
 go_wp2
 go_ret
 exact ⟨rfl,B1.out⟩
theorem asked_any {s:Int}{g n f T:Nat}{L:Int}(hz:Fz s g n f T L) {t:ByteArray}(ht:t.size≤9223372036854775807) (p:Int) (c:Bool) {b:Nat}(hb:b<18446744073709551616) (i:Bool) (w:World) :
 ∃ k:Int,Calls Tryz.prog 39 #[dcV t p c,vU (b:Int),vI s,.bool i] w (fun e w'=>e=.returned (vI k)∧Bl w w') ∧
  ((k=0∧VD t p c∧(b<n ∨ (b=n∧i=true))) ∨ (k=1∧¬ (VD t p c∧(b<n ∨ (b=n∧i=true))))):=by
 obtain ⟨_,hg,h2,g0⟩:=fz_parts hz
 have SZ:=fun W=>rsize_z hz W
 by_cases hv:VD t p c
 · have VA:=fun W=>rvald_yes hv W
   rcases Nat.lt_or_ge b (2 * g) with h | h
   · have CK:=fun W=>rcheck_z hz h W
     have MG:=fun W=>rmag_z hz h W
     have CL:=fun W=>rof_z hz h W
     rcases Nat.lt_or_ge b g with k | k
     · rw [mg_self k] at MG CL
       rcases Nat.lt_trichotomy b n with q | q | q
       · refine ⟨0,asked_yes ?_ ?_ i w SZ VA CK MG CL,.inl ⟨rfl,hv,.inl q⟩⟩
         · unfold cl
           split
           · rfl
           · rfl
         · unfold cl
           split
           · rfl
           · rfl
       · subst q
         have e:cl b b=3:=cl_inf (by rcases hz with ⟨_,_,rfl,_⟩ | ⟨_,_,rfl,_⟩ <;> decide)
         rw [e] at CL
         cases i
         · exact ⟨1,asked_inf0 w SZ VA CK MG CL,.inr ⟨rfl,fun z=>by
            rcases z.2 with y | ⟨_,y⟩
            · omega
            · cases y⟩⟩
         · exact ⟨0,asked_inf1 w SZ VA CK MG CL,.inl ⟨rfl,hv,.inr ⟨rfl,rfl⟩⟩⟩
       · rw [cl_nan q] at CL
         exact ⟨1,asked_nan i w SZ VA CK MG CL,.inr ⟨rfl,fun z=>by omega⟩⟩
     · have hm:=mg_lt g0 b
       refine ⟨1,asked_sg (m:=mg g b) ?_ i w SZ VA CK MG,.inr ⟨rfl,fun z=>by omega⟩⟩
       rw [beq_eq_false_iff_ne]
       omega
   · have z32:s=32∧4294967296≤b:=by
      rcases hz with ⟨rfl,rfl,_⟩ | ⟨_,rfl,_⟩
      · exact ⟨rfl,h⟩
      · omega
     obtain ⟨rfl,h4⟩:=z32
     exact ⟨1,asked_ck i w SZ VA (fun W=>rcheck_big h4 W),.inr ⟨rfl,fun z=>by omega⟩⟩
 · exact ⟨1,asked_bad i w SZ (fun W=>rvald_no ht hv W),.inr ⟨rfl,fun z=>hv z.1⟩⟩
theorem near_nil (w:World):Cb 80 #[dcV ⟨#[]⟩ 0 false] w (dcV ⟨#[]⟩ (nrP 0) false):=by
 rw [show nrP 0=0 from rfl]
 unfold dcV
 go_enter Tryz.func80,Tryz.ntmps80
 go_wp2
 refine bodyPost_ret (v:=.agg #[.string ⟨#[]⟩,vI 0,.bool false]) (by simp [results,Tryz.results80,go_sem]) rfl ⟨rfl,(bz _ _).alloc (by simp) _⟩
theorem ba_none16 {s:ByteArray}(h:s.size=0):s=⟨#[]⟩:=by
 apply ByteArray.ext
 exact Array.eq_empty_of_size_eq_zero h
theorem VD.dg {s:ByteArray}{p:Int}{c:Bool}(h:VD s p c):DG s∧s.size≤801:=by
 rcases h with ⟨h,_⟩ | h
 · exact ⟨fun k hk=>absurd hk (by omega),by omega⟩
 · exact ⟨h.dg,by have:=h.len;omega⟩
theorem near_any {s:ByteArray}{p:Int}{c:Bool}(h:VD s p c) (w:World):Cb 80 #[dcV s p c] w (dcV s (nrP p) c):=by
 rcases h with ⟨h,rfl,rfl⟩ | h
 · obtain rfl:=ba_none16 h
   exact near_nil w
 · exact near14 h.pos p c w
theorem against_ok {s:ByteArray}{p:Int}{c:Bool}(h:VD s p c) {w:World}{v1 v2:Value}{N D:Nat}(h1:Big.NatV w v1 N) (h2:Big.NatV w v2 D) (f1:Fits 300 N) (f2:Fits 300 D) :
 Cb 41 #[dcV s p c,v1,v2] w (vI (oc (frN s (nrP p)) (frD s (nrP p)) c N D)):=by
 have NR:=fun W=>near_any h W
 have FR:=fun W=>frac14 h.dg.2 h.dg.1 c (nrP_in p).1 (nrP_in p).2 W
 have gN:=frN_fits h.dg.2 h.dg.1 (nrP_in p).2
 have gD:=frD_fits h.dg.2 (nrP_in p).1
 have OC:Hid (∀ o,o=ord (frN s (nrP p) * D) (N * frD s (nrP p)) → oc (frN s (nrP p)) (frD s (nrP p)) c N D=if o=0∧c=true then 1 else o):=fun o ho=>by rw [ho];rfl
 have HF:Hid (Fits 300 N∧Fits 300 D∧Fits 256 (frN s (nrP p))∧Fits 256 (frD s (nrP p))):=⟨f1,f2,gN,gD⟩
 generalize hoc:oc (frN s (nrP p)) (frD s (nrP p)) c N D=oo at *
 clear hoc f1 f2 gN gD h
 generalize hq:nrP p=q at *
 clear hq
 generalize frN s q=A at *
 generalize frD s q=E at *
 unfold dcV at *
 have H0:Hid (Big.NatV (w.alloc (.cells #[.string s,vI p,.bool c] 41)) v1 N∧Big.NatV (w.alloc (.cells #[.string s,vI p,.bool c] 41)) v2 D∧DcB (w.alloc (.cells #[.string s,vI p,.bool c] 41)) w.heap.size (.string s) (vI p) (.bool c)∧Bl w (w.alloc (.cells #[.string s,vI p,.bool c] 41))):=⟨h1.below (bz _ _),h2.below (bz _ _),DcB.new w _ _ _ _,bz _ _⟩
 clear h1 h2
 go_enter Tryz.func41,Tryz.ntmps41
 go_wp2_with fail
 refine (NR _).mono ?_
 rintro o w1 ⟨rfl,b1⟩
 have H1:Hid (Big.NatV w1 v1 N∧Big.NatV w1 v2 D∧DcB w1 w.heap.size (.string s) (vI p) (.bool c)∧Bl w w1):=⟨H0.out.1.below b1,H0.out.2.1.below b1,H0.out.2.2.1.step b1,H0.out.2.2.2.trans (b1.mono H0.out.2.2.2.size)⟩
 clear b1 H0 NR
 go_wp2_with fail
 refine (FR _).mono ?_
 rintro o w2 ⟨va,vb,rfl,na,nb,b2⟩
 have H2:Hid (Big.NatV w2 v1 N∧Big.NatV w2 v2 D∧DcB w2 w.heap.size (.string s) (vI p) (.bool c)∧Bl w w2∧Big.NatV w2 va A∧Big.NatV w2 vb E):=⟨H1.out.1.below b2,H1.out.2.1.below b2,H1.out.2.2.1.step b2,H1.out.2.2.2.trans (b2.mono H1.out.2.2.2.size),na,nb⟩
 have T1:=times_nat H2.out.2.2.2.2.1 H2.out.2.1 (HF.out.2.2.1.up (by omega)) (HF.out.2.1.up (by omega))
 clear b2 H1 FR na nb
 go_wp2_with fail
 refine T1.mono ?_
 rintro o w3 ⟨v3,rfl,n3,b3⟩
 have H3:Hid (Big.NatV w3 v1 N∧Big.NatV w3 vb E∧DcB w3 w.heap.size (.string s) (vI p) (.bool c)∧Bl w w3∧Big.NatV w3 v3 (A * D)):=⟨H2.out.1.below b3,H2.out.2.2.2.2.2.below b3,H2.out.2.2.1.step b3,H2.out.2.2.2.1.trans (b3.mono H2.out.2.2.2.1.size),n3⟩
 have T2:=times_nat H3.out.1 H3.out.2.1 (HF.out.1.up (by omega)) (HF.out.2.2.2.up (by omega))
 clear b3 H2 T1 n3
 go_wp2_with fail
 refine T2.mono ?_
 rintro o w4 ⟨v4,rfl,n4,b4⟩
 have H4:Hid (DcB w4 w.heap.size (.string s) (vI p) (.bool c)∧Bl w w4∧Big.NatV w4 v3 (A * D)∧Big.NatV w4 v4 (N * E)):=⟨H3.out.2.2.1.step b4,H3.out.2.2.2.1.trans (b4.mono H3.out.2.2.2.1.size),H3.out.2.2.2.2.below b4,n4⟩
 have CM:=bcmp_nat H4.out.2.2.1 H4.out.2.2.2
 clear b4 H3 T2 n4
 go_wp2_with fail
 refine CM.mono ?_
 rintro o w5 ⟨rfl,b5⟩
 have H5:Hid (DcB w5 w.heap.size (.string s) (vI p) (.bool c)∧Bl w w5):=⟨H4.out.1.step b5,H4.out.2.1.trans (b5.mono H4.out.2.1.size)⟩
 clear b5 H4 CM
 obtain ⟨_,a0,a1,a2,_,_,_⟩:=H5.out.1
 have hoo:=OC.out _ rfl
 generalize ord (A * D) (N * E)=od at *
 have HOO:Hid _:=hoo
 clear hoo OC
 by_cases z:od=0
 · subst z
   cases c
   · go_wp2
     go_ret
     exact ⟨congrArg (fun x:Int=>Ending.returned (vI x)) (by have:=HOO.out;simpa using this.symm),H5.out.2⟩
   · go_wp2
     go_ret
     exact ⟨congrArg (fun x:Int=>Ending.returned (vI x)) (by have:=HOO.out;simpa using this.symm),H5.out.2⟩
 · have zb:(od == 0)=false:=by rw [beq_eq_false_iff_ne];exact z
   go_wp2
   go_ret
   exact ⟨congrArg (fun x:Int=>Ending.returned (vI x)) (by have:=HOO.out;rw [if_neg (fun y=>z y.1)] at this;exact this.symm),H5.out.2⟩
theorem Fits.nat {w:World}{v:Value}{X:Nat}(h:NatV w v X):Fits 300 X:=(of_nat h).2.1.up (by omega)
theorem slice_of {w:World}{v:Value}{X:Nat}(h:NatV w v X):∃ ao n c,v=.slice ao n c:=(of_nat h).1
theorem half16_ok {s:Int}{g n f T:Nat}{L:Int}(hz:Fz s g n f T L) {t:ByteArray}{p:Int}{c:Bool}(h:VD t p c) {b:Nat}(hb:b<n) {w:World}
 (AS:∀ W,Cb 39 #[dcV t p c,vU (b:Int),vI s,.bool false] W (vI 0)) :
 Calls Tryz.prog 21 #[dcV t p c,vU (b:Int),vI s] w fun e w'=>∃ N D,e=.returned (.tuple #[vI (oc (frN t (nrP p)) (frD t (nrP p)) c N D),vI 0])∧Frc N D (hM f b) (hX f L b)∧Bl w w':=by
 have VV:=fun W=>half14 hz hb W
 have HV:Hid (VD t p c):=h
 unfold dcV at AS ⊢
 have H0:Hid (DcB (w.alloc (.cells #[.string t,vI p,.bool c] 41)) w.heap.size (.string t) (vI p) (.bool c)∧Bl w (w.alloc (.cells #[.string t,vI p,.bool c] 41))):=⟨DcB.new w _ _ _ _,bz _ _⟩
 clear h hb
 go_enter Tryz.func21,Tryz.ntmps21
 go_wp2_with fail
 refine (AS _).mono ?_
 rintro o w1 ⟨rfl,b1⟩
 have H1:Hid (DcB w1 w.heap.size (.string t) (vI p) (.bool c)∧Bl w w1):=⟨H0.out.1.step b1,H0.out.2.trans (b1.mono H0.out.2.size)⟩
 clear b1 H0 AS
 go_wp2_with fail
 refine (VV _).mono ?_
 rintro o w2 ⟨v1,v2,N,D,rfl,n1,n2,fr,b2⟩
 have H2:Hid (DcB w2.drew w.heap.size (.string t) (vI p) (.bool c)∧Bl w w2.drew∧NatV w2.drew v1 N∧NatV w2.drew v2 D):=⟨(H1.out.1.step b2).step (Below.refl _ _).drew,(H1.out.2.trans (b2.mono H1.out.2.size)).drew,n1.below (Below.refl _ _).drew,n2.below (Below.refl _ _).drew⟩
 have HFR:Hid (Frc N D (hM f b) (hX f L b)∧Fits 300 N∧Fits 300 D):=⟨fr,Fits.nat n1,Fits.nat n2⟩
 obtain ⟨x1,y1,z1,e1⟩:=slice_of n1
 obtain ⟨x2,y2,z2,e2⟩:=slice_of n2
 subst e1
 subst e2
 have D2:=H1.out.1.step b2
 clear b2 H1 VV fr n1 n2
 obtain ⟨l2,a0,a1,a2,_,_,_⟩:=D2
 go_upto_region 5 with fail
 have O1:=(of_nat H2.out.2.2.1).2.2
 go_region_held3 (fun w'=>w'.cell? ⟨w.heap.size,0,none⟩=some (.string t)∧w'.cell? ⟨w.heap.size,1,none⟩=some (vI p)∧w'.cell? ⟨w.heap.size,2,none⟩=some (.bool c)) (simp [*,go_sem])
  (first
   | (go_at_call_of 42 (Value.slice x1 y1 z1);refine O1.mono ?_;rintro o w3 ⟨v3,rfl,n3,b3⟩;have H3:Hid (Big.NatV w3 v3 N∧NatV w3 (.slice x2 y2 z2) D∧DcB w3 w.heap.size (.string t) (vI p) (.bool c)∧Bl w w3):=⟨n3,H2.out.2.2.2.below b3,H2.out.1.step b3,H2.out.2.1.trans (b3.mono H2.out.2.1.size)⟩;have O2:=(of_nat H3.out.2.1).2.2;clear b3 n3;obtain ⟨l3,c0,c1,c2,_,_,_⟩:=H3.out.2.2.1)
   | (go_at_call_of 42 (Value.slice x2 y2 z2);refine O2.mono ?_;rintro o w4 ⟨v4,rfl,n4,b4⟩;have H4:Hid (Big.NatV w4 v3 N∧Big.NatV w4 v4 D∧DcB w4 w.heap.size (.string t) (vI p) (.bool c)∧Bl w w4):=⟨H3.out.1.below b4,n4,H3.out.2.2.1.step b4,H3.out.2.2.2.trans (b4.mono H3.out.2.2.2.size)⟩;clear b4 n4;have AG:=against_ok HV.out H4.out.1 H4.out.2.1 HFR.out.2.1 HFR.out.2.2;unfold dcV at AG;obtain ⟨l4,d0,d1,d2,_,_,_⟩:=H4.out.2.2.1)
   | (go_at_call 41;refine AG.mono ?_;rintro o w5 ⟨rfl,b5⟩;have H5:Hid (DcB w5 w.heap.size (.string t) (vI p) (.bool c)∧Bl w w5):=⟨H4.out.2.2.1.step b5,H4.out.2.2.2.trans (b5.mono H4.out.2.2.2.size)⟩;clear b5;obtain ⟨l5,e0,e1,e2,_,_,_⟩:=H5.out.1))
 go_wp2
 go_ret2
 exact ⟨N,D,rfl,HFR.out.1,H5.out.2⟩
def nrX (f T:Nat) (L:Int) (s:ByteArray) (p:Int) (c:Bool):Nat × Bool:=if s.size=0 then (0,false) else rdA f T L (frN s (nrP p)) (frD s (nrP p)) 0 c
end Go.Proofs.YteeobndfnkeldaaGreatDoor
namespace Go.Proofs.YteeobndfnkeldaaGreatDoor
def clP (p:Int):Int:=max (-324) (min p 310)
def Alk (p q:Int):Prop:=q=p ∨ (310≤p∧310≤q) ∨ (p ≤ -324∧q ≤ -324)
theorem clP_in (p:Int):-324≤clP p∧clP p≤310:=by unfold clP;omega
theorem alk_nr (p:Int):Alk (clP p) (nrP p):=by
 unfold Alk nrP clP
 split
 · omega
 · split <;> omega
theorem two_up:∃ a e:Nat,a=1024∧e=309∧2 ^ a<10 ^ e:=⟨1024,309,rfl,rfl,by decide +kernel⟩
theorem two_dn:∃ a e:Nat,a=1075∧e=324∧2 ^ a≤10 ^ e:=⟨1075,324,rfl,rfl,by decide +kernel⟩
structure Bnd (m:Nat) (x:Int):Prop where
 hi:∃ k:Nat,m<2 ^ k∧k≤64∧x+k≤1024
 lo:-1075≤x
theorem bnd_half {s:Int}{g n f T:Nat}{L:Int}(hz:Fz s g n f T L) {b:Nat}(hb:b<n):Bnd (hM f b) (hX f L b):=by
 obtain ⟨p1,p2,p3⟩:=parts_lim hz hb
 have e:(2:Nat) ^ 54=18014398509481984:=by decide
 unfold hM hX
 exact ⟨⟨54,by rw [e];omega,by decide,by omega⟩,by omega⟩
theorem oc_hi {s:ByteArray}{q p:Int}{c:Bool}(h:VN s q c) (hp:310≤p) {N D m:Nat}{x:Int}(k:Frc N D m x) (hb:Bnd m x) (b:Bool):oc (frN s p) (frD s p) b N D=1:=by
 obtain ⟨a,e,ha,he,hae⟩:=two_up
 obtain ⟨⟨j,j1,j2,j3⟩,_⟩:=hb
 exact oc_gt (far_lo hae k.pos (Nat.pow_pos (by decide)) (fr_far_up h e (by omega)) (k.within j1 (by omega) (by omega)))
theorem oc_lo {s:ByteArray}{q p:Int}{c:Bool}(h:VN s q c) (hp:p ≤ -324) {N D m:Nat}{x:Int}(k:Frc N D m x) (hb:Bnd m x) (m0:0<m) (b:Bool):oc (frN s p) (frD s p) b N D = -1:=by
 obtain ⟨a,e,ha,he,hae⟩:=two_dn
 have N0:0<N:=Nat.pos_of_ne_zero fun z=>by have:=k.zero.1 z;omega
 have lo:=hb.lo
 exact oc_lt (far_hi hae N0 (fr_far_dn h e (by omega)) (k.above m0 (by omega)))
theorem oc_alk {s:ByteArray}{q p p':Int}{c:Bool}(h:VN s q c) (hp:Alk p p') {N D m:Nat}{x:Int}(k:Frc N D m x) (hb:Bnd m x) (b:Bool):oc (frN s p') (frD s p') b N D=oc (frN s p) (frD s p) b N D:=by
 rcases hp with rfl | ⟨h1,h2⟩ | ⟨h1,h2⟩
 · rfl
 · rw [oc_hi h h1 k hb,oc_hi h h2 k hb]
 · rcases Nat.eq_zero_or_pos m with z | z
   · obtain rfl:=k.zero.2 z
     rw [oc_nought h k.pos,oc_nought h k.pos]
   · rw [oc_lo h h1 k hb z,oc_lo h h2 k hb z]
theorem frD_pos (s:ByteArray) (p:Int):0<frD s p:=Nat.pow_pos (by decide)
theorem up_alk {z:Int}{g n f T:Nat}{L:Int}(hz:Fz z g n f T L) {s:ByteArray}{q p p':Int}{c:Bool}(h:VN s q c) (hp:Alk p p') (c':Bool) {b:Nat}(hb:b<n):Up f L (frN s p') (frD s p') 0 c' b ↔ Up f L (frN s p) (frD s p) 0 c' b:=by
 have k:=ex_frc (hM f b) (hX f L b)
 rw [up_oc k k.pos,up_oc k k.pos,oc_alk h hp k (bnd_half hz hb)]
theorem rd_end {f T:Nat}(hf:0<f) {L:Int}{X Y:Nat}{c:Bool}(X0:X ≠ 0) (Y0:Y ≠ 0) (d:¬ Up f L X Y 0 c (T * 2 ^ f - 1)):rdA f T L X Y 0 c=(T * 2 ^ f,true):=by
 have r:=rdN_RD (f:=f) (L:=L) (e:=0) hf c X0 Y0
 unfold rdA
 rw [if_neg X0,if_neg]
 intro lt
 exact d (r.1.mono (Nat.pos_of_ne_zero Y0) (by omega))
theorem rd_steps {f T:Nat}(hf:0<f) {L:Int}{X Y r:Nat}{c:Bool}(X0:X ≠ 0) (Y0:Y ≠ 0) (hr:r≤T * 2 ^ f) (lo:r=0 ∨ ¬ Up f L X Y 0 c (r - 1)) (hi:r<T * 2 ^ f → Up f L X Y 0 c r) (h0:0<T * 2 ^ f):rdA f T L X Y 0 c=if r<T * 2 ^ f then (r,false) else (T * 2 ^ f,true):=by
 by_cases q:r<T * 2 ^ f
 · rw [rdA_of hf X0 Y0 ⟨hi q,lo⟩]
 · rw [if_neg q]
   have e:r=T * 2 ^ f:=by omega
   rw [e] at lo
   rcases lo with lo | lo
   · omega
   · exact rd_end hf X0 Y0 lo
theorem frN_ne {s:ByteArray}{q p:Int}{c:Bool}(h:VN s q c):frN s p ≠ 0:=Nat.pos_iff_ne_zero.mp (Nat.mul_pos h.val (Nat.pow_pos (by decide)))
theorem rd_alk {z:Int}{g n f T:Nat}{L:Int}(hz:Fz z g n f T L) {s:ByteArray}{q p p':Int}{c:Bool}(h:VN s q c) (hp:Alk p p') (c':Bool):rdA f T L (frN s p') (frD s p') 0 c'=rdA f T L (frN s p) (frD s p) 0 c':=by
 obtain ⟨en,_,_,_⟩:=fz_parts hz
 have hf:0<f∧0<n:=by rcases hz with ⟨_,_,rfl,rfl,_,_⟩ | ⟨_,_,rfl,rfl,_,_⟩ <;> decide
 have Y0:=fun x=>Nat.pos_iff_ne_zero.mp (frD_pos s x)
 have r:=rdN_RD (f:=f) (L:=L) (e:=0) hf.1 c' (frN_ne (p:=p) h) (Y0 p)
 generalize rdN f L (frN s p) (frD s p) 0 c'=b at r
 by_cases k:b<n
 · have r':RD f L (frN s p') (frD s p') 0 c' b:=by
    refine ⟨(up_alk hz h hp c' k).2 r.1,?_⟩
    rcases r.2 with e | e
    · exact .inl e
    · exact .inr fun u=>e ((up_alk hz h hp c' (by omega)).1 u)
   rw [rdA_of hf.1 (frN_ne h) (Y0 p) r,rdA_of hf.1 (frN_ne h) (Y0 p') r']
 · have d:¬ Up f L (frN s p) (frD s p) 0 c' (T * 2 ^ f - 1):=by
    rw [← en]
    intro u
    rcases r.2 with e | e
    · omega
    · exact e (u.mono (frD_pos _ _) (by omega))
   have d':¬ Up f L (frN s p') (frD s p') 0 c' (T * 2 ^ f - 1):=by
    rw [← en] at d ⊢
    exact fun u=>d ((up_alk hz h hp c' (by omega)).1 u)
   rw [rd_end hf.1 (frN_ne h) (Y0 p) d,rd_end hf.1 (frN_ne h) (Y0 p') d']
theorem head_le {s:ByteArray}{k:Nat}(hk:k≤s.size) (p:Int):frN (s.extract 0 k) p * frD s p≤frN s p * frD (s.extract 0 k) p:=by
 have es:(s.extract 0 k).size=k:=by rw [ByteArray.size_extract];omega
 have ed:dvA (s.extract 0 k) 0 k=dvA s 0 k:=dvA_same fun i hi=>by rw [Nat.zero_add];exact dgt_pre hk hi
 unfold frN frD
 rw [es,ed]
 obtain ⟨j,ej⟩:∃ j,s.size=k+j:=⟨s.size - k,by omega⟩
 rw [ej,dvA_add]
 generalize dvA s 0 k=A
 generalize dvA s k j=R
 rw [Nat.mul_assoc,← Nat.pow_add,Nat.mul_assoc,← Nat.pow_add,Nat.add_mul,Nat.mul_assoc,← Nat.pow_add]
 have e:(p - (k:Int)).toNat+(((k+j:Nat):Int) - p).toNat=j+((p - ((k+j:Nat):Int)).toNat+((k:Int) - p).toNat):=by omega
 rw [e]
 exact Nat.le_add_right _ _
theorem up_head {f:Nat}{L:Int}{X Y X' Y' b:Nat}{c:Bool}(Y0:0<Y) (Y0':0<Y') (h:X' * Y≤X * Y') (u:Up f L X Y 0 c b):Up f L X' Y' 0 false b:=by
 have u1:Up f L X Y 0 false b:=by
  rcases u with u | ⟨u1,u2,_⟩
  · exact .inl u
  · exact .inr ⟨u1,u2,rfl⟩
 have u2:Up f L (X * Y') (Y * Y') 0 false b:=(Up_iff Y0 (Nat.mul_pos Y0 Y0') ⟨0,Int.le_refl _,Int.le_refl _,by
  unfold ev
  rw [Nat.mul_comm Y Y',Nat.mul_assoc X Y' Y]⟩ b).1 u1
 have u3:=u2.less h
 exact (Up_iff Y0' (Nat.mul_pos Y0 Y0') ⟨0,Int.le_refl _,Int.le_refl _,by
  unfold ev
  rw [Nat.mul_assoc X' Y Y']⟩ b).2 u3
theorem guess_ok {f T:Nat}(hf:0<f) {L:Int}{X Y X' Y':Nat}{c:Bool}(Y0:0<Y) (Y0':0<Y') (h:X' * Y≤X * Y'):(rdA f T L X' Y' 0 false).1=0 ∨ ¬ Up f L X Y 0 c ((rdA f T L X' Y' 0 false).1 - 1):=by
 by_cases z:X'=0
 · left;unfold rdA;rw [if_pos z]
 · have r:=rdN_RD (f:=f) (L:=L) (e:=0) hf false z (Nat.pos_iff_ne_zero.mp Y0')
   have key:∀ b,b≤rdN f L X' Y' 0 false → b=0 ∨ ¬ Up f L X Y 0 c (b - 1):=by
    intro b hb
    rcases Nat.eq_zero_or_pos b with e | e
    · exact .inl e
    · right
      intro u
      rcases r.2 with k | k
      · omega
      · exact k ((up_head Y0 Y0' h u).mono Y0' (by omega))
   unfold rdA
   rw [if_neg z]
   split
   · exact key _ (Nat.le_refl _)
   · exact key _ (by simp only;omega)
theorem up_none {f:Nat}{L:Int}{Y b:Nat}(Y0:0<Y):Up f L 0 Y 0 false b:=by
 have k:=ex_frc (hM f b) (hX f L b)
 rw [up_oc k k.pos]
 left
 apply oc_lt
 rw [Nat.zero_mul]
 exact Nat.mul_pos (Nat.pos_of_ne_zero (half_ne k)) Y0
theorem nr_steps {z:Int}{g n f T:Nat}{L:Int}(hz:Fz z g n f T L) {s:ByteArray}{p:Int}{c:Bool}(h:VD s p c) {r:Nat}(hr:r≤n) (lo:r=0 ∨ ¬ Up f L (frN s (clP p)) (frD s (clP p)) 0 c (r - 1)) (hi:r<n → Up f L (frN s (clP p)) (frD s (clP p)) 0 c r):nrX f T L s p c=(r,decide (r=n)):=by
 obtain ⟨en,_,_,_⟩:=fz_parts hz
 have hf:0<f∧0<n:=by rcases hz with ⟨_,_,rfl,rfl,_,_⟩ | ⟨_,_,rfl,rfl,_,_⟩ <;> decide
 rcases h with ⟨h0,rfl,rfl⟩ | h
 · have e:frN s (clP 0)=0:=by unfold frN;rw [h0];exact Nat.zero_mul _
   have r0:r=0:=by
    rcases lo with k | k
    · exact k
    · rw [e] at k
      exact absurd (up_none (frD_pos _ _)) k
   unfold nrX
   rw [if_pos h0,r0,decide_eq_false (by omega)]
 · unfold nrX
   rw [if_neg (by have:=h.pos;omega),rd_alk hz h (alk_nr p)]
   rw [rd_steps (T:=T) (r:=r) hf.1 (frN_ne h) (Nat.pos_iff_ne_zero.mp (frD_pos _ _)) (by omega) lo (by rw [← en];exact hi) (by omega),← en]
   by_cases k:r<n
   · rw [if_pos k,decide_eq_false (by omega)]
   · rw [if_neg k,decide_eq_true (by omega),show n=r by omega]
theorem Frc.lim {N D m:Nat}{x:Int}(h:Frc N D m x) (hb:Bnd m x):∃ a b:Nat,D≤2 ^ a∧N≤2 ^ b∧a=1075∧b=2099:=by
 obtain ⟨a,ha⟩:∃ a:Nat,a=1075:=⟨_,rfl⟩
 obtain ⟨b,hb'⟩:∃ b:Nat,b=1024:=⟨_,rfl⟩
 have hD:D≤2 ^ a:=by
  obtain ⟨v,j,rfl,o⟩:=h
  refine Nat.pow_le_pow_right (by decide) ?_
  rcases o with o | o
  · rcases Int.lt_or_le x 0 with c | c
    · have q:=v.at x (by omega) (Int.le_refl _)
      rw [ev_self] at q
      unfold ev at q
      have lo:=hb.lo
      rcases Nat.lt_or_ge j (0 - x).toNat with y | y
      · omega
      · have w:=(frc_key (n:=m) (n':=N) (k:=(0 - x).toNat) (k':=j) (by rw [q];exact Nat.mul_comm _ _) (.inl o) y).2
        omega
    · have q:=v.at 0 (Int.le_refl _) c
      rw [ev_self] at q
      rcases Nat.eq_zero_or_pos j with y | y
      · omega
      · obtain ⟨i,rfl⟩:∃ i,j=i+1:=⟨j - 1,by omega⟩
        rw [q,Nat.pow_succ,Nat.mul_right_comm] at o
        omega
  · omega
 obtain ⟨⟨k,k1,k2,k3⟩,_⟩:=hb
 have hN:=h.within (a:=b) k1 (by omega) (by omega)
 refine ⟨a,a+b,hD,?_,ha,by omega⟩
 rw [Nat.pow_add]
 exact Nat.le_trans hN (Nat.mul_le_mul_right _ hD)
theorem fit_mul {a b A C K:Nat}(h1:a≤2 ^ A) (h2:b≤2 ^ C) (h:A+C<64 * K):a * b<B ^ K:=by
 have e:B=2 ^ 64:=by decide
 rw [e,← Nat.pow_mul]
 refine Nat.lt_of_le_of_lt (Nat.mul_le_mul h1 h2) ?_
 rw [← Nat.pow_add]
 exact Nat.pow_lt_pow_right (by decide) h
theorem ten_two (k:Nat):10 ^ k≤2 ^ (4 * k):=by
 rw [Nat.pow_mul]
 exact Nat.pow_le_pow_left (by decide) k
theorem frN_lim {s:ByteArray}(hs:s.size≤800) (hd:DG s) {p:Int}(h:p≤310):∃ a:Nat,frN s p≤2 ^ a∧a=4440:=by
 obtain ⟨k,hk⟩:∃ k:Nat,k=1110:=⟨_,rfl⟩
 refine ⟨4 * k,Nat.le_trans ?_ (ten_two k),by omega⟩
 unfold frN
 refine Nat.le_trans (Nat.mul_le_mul_right _ (Nat.le_of_lt (dvA_lt hd 0 s.size))) ?_
 rw [← Nat.pow_add]
 exact Nat.pow_le_pow_right (by decide) (by omega)
theorem frD_lim {s:ByteArray}(hs:s.size≤800) {p:Int}(h:-324≤p):∃ a:Nat,frD s p≤2 ^ a∧a=4496:=by
 obtain ⟨k,hk⟩:∃ k:Nat,k=1124:=⟨_,rfl⟩
 refine ⟨4 * k,Nat.le_trans ?_ (ten_two k),by omega⟩
 unfold frD
 exact Nat.pow_le_pow_right (by decide) (by omega)
end Go.Proofs.YteeobndfnkeldaaGreatDoor
