/-
  Holds: VEwA VEwF VEwN VCrA SoB SoS LawSoDz LawSoD0 LawSoD1 LawSoD2 LawSoD3 LawSoD4.
-/
import Derived.Laws.BitsAllLaws
import Derived.Test.YtblkokjkmbpejaaGreatDoorChecked
import Derived.Lib.ItoaNum
import Derived.Laws.Externs
import Derived.WalkKit
import Derived.WalkSpells
import Derived.WalkLawsBesides
import Derived.Lib.Mul64
import Derived.Lib.TrailingZeros
import Derived.Deep.OwnRows
import Derived.Laws.CopyOwn
import Derived.BigQuiet
import Derived.Deep.RegionHeld3
import Derived.Deep.LoopGhost
import Derived.Deep.AppendLies
import Derived.Deep.DeepCutAuto
import Derived.Stop.Asserts
import Derived.RowKitTokens
import Derived.Lib.Strings
import Derived.Lib.BufferWrite
import Derived.Lib.ConvBytes
import Derived.Test.YtblkokjkmbpejaaGreatDoorRows
import Derived.Test.YtblkokjkmbpejaaGreatDoorKf27
import Derived.Test.YtblkokjkmbpejaaGreatDoorKf39
set_option maxRecDepth 100000
set_option maxHeartbeats 4000000
namespace Go.Proofs.YtblkokjkmbpejaaGreatDoor
open Go.RowKit
theorem aDI (k:Nat):10 ^ k ≠ 0:=Nat.ne_of_gt (Nat.pow_pos (by decide))
theorem wU        {z : Int} {g n f T : Nat} {L : Int} (hz : Fz z g n f T L) {s : ByteArray} {p : Int} {c : Bool} (h : VN s p c) (w : World) : Calls Tryz.prog 41 #[dcV s p c, .int .i64 z] w fun e w' => e = .returned (.tuple #[.int .u64 (((rdA f T L (frN s (nrP p)) (frD s (nrP p)) 0 c).1 : Nat) : Int), .int .i64 (if (rdA f T L (frN s (nrP p)) (frD s (nrP p)) 0 c).2 then 4 else 0)]) ∧ Below w.heap.size w w' := by
  have T0 := fun W => rN      hz W
  have T1 := fun W => aH        (.inr h) W
  have T2 := fun W => aC6    h.pos p c W
  have hl : s.size ≤ 801 := Nat.le_trans h.len (by decide)
  have T3 := fun W => aCS    hl h.dg c (kO     p).1 (kO     p).2 W
  have T4 : ∀ {W : World} {v1 v2 : Value}, Big.NatV W v1 (frN s (nrP p)) → Big.NatV W v2 (frD s (nrP p)) → _ := fun {W v1 v2} a b => aAI      hz (e := 0) c a b (zS       hl h.dg (kO     p).2) (zR       hl (kO     p).1) (Nat.ne_of_gt (Nat.mul_pos h.val (Nat.pow_pos (by decide)))) (aDI    _) (by decide) (by decide)
  have hE := aB          h.pos
  generalize hA : rdA f T L (frN s (nrP p)) (frD s (nrP p)) 0 c = A at *
  generalize frN s (nrP p) = X at *
  generalize frD s (nrP p) = Y at *
  generalize nrP p = p' at *
  obtain ⟨b, over⟩ := A
  clear h hz hl hA
  unfold dcV at *
  go_enter Tryz.func41, Tryz.ntmps41
  go_wp2_with fail
  refine (T0 _).mono ?_
  rintro e w1 ⟨rfl, h1⟩
  have D1 : Hid (DcB w1 w.heap.size (.string s) (.int .i64 p) (.bool c)) := by rw [h1]; exact DcB.new w _ _ _ _
  have B1 : Hid (Below w.heap.size w w1) := by rw [h1]; exact (Below.refl _ _).alloc (Nat.le_refl _) _
  clear h1 T0
  obtain ⟨_, a0, a1, a2, _, _, _⟩ := D1.out
  go_wp2_with fail
  refine (T1 _).mono ?_
  rintro e w2 ⟨rfl, h2⟩
  have D2 : Hid (DcB w2 w.heap.size (.string s) (.int .i64 p) (.bool c)) := D1.out.step h2
  have B2 : Hid (Below w.heap.size w w2) := B1.out.trans (h2.mono B1.out.size)
  clear h2 T1 D1 B1 a0 a1 a2
  obtain ⟨_, a0, a1, a2, _, _, _⟩ := D2.out
  go_wp2_with fail
  refine (T2 _).mono ?_
  rintro e w3 ⟨rfl, h3⟩
  have D3 : Hid (DcB w3 w.heap.size (.string s) (.int .i64 p) (.bool c)) := D2.out.step h3
  have B3 : Hid (Below w.heap.size w w3) := B2.out.trans (h3.mono B2.out.size)
  clear h3 T2 D2 B2 a0 a1 a2
  go_wp2_with fail
  refine (T3 _).mono ?_
  rintro e w4 ⟨v1, v2, rfl, n1, n2, h4⟩
  have D4 : Hid (DcB w4 w.heap.size (.string s) (.int .i64 p) (.bool c)) := D3.out.step h4
  have B4 : Hid (Below w.heap.size w w4) := B3.out.trans (h4.mono B3.out.size)
  have T5 := T4 n1 n2
  clear h4 T3 D3 B3 n1 n2 T4
  obtain ⟨_, a0, a1, a2, _, _, _⟩ := D4.out
  go_wp2_with fail
  refine T5.mono ?_
  rintro e w5 ⟨rfl, h5⟩
  have B5 : Hid (Below w.heap.size w w5) := B4.out.trans (h5.mono B4.out.size)
  clear h5 T5 D4 B4 a0 a1 a2
  cases over with
  | true =>
    go_wp2
    exact bodyPost_ret (v := .tuple #[.int .u64 (b : Int), .int .i64 4]) (by simp [results, Tryz.results41, go_sem]) rfl ⟨rfl, B5.out⟩
  | false =>
    go_wp2
    exact bodyPost_ret (v := .tuple #[.int .u64 (b : Int), .int .i64 0]) (by simp [results, Tryz.results41, go_sem]) rfl ⟨rfl, B5.out⟩
theorem oF {z:Int}{g n f T:Nat}{L:Int}(hz:Fz z g n f T L) (w:World):Cb 41 #[dcV ⟨#[]⟩ 0 false,vI z] w (.tuple #[vU 0,vI 0]):=by
 have T0:=fun W=>rN hz W
 have T1:=fun W=>aH (s:=⟨#[]⟩) (p:=0) (c:=false) (.inl ⟨rfl,rfl,rfl⟩) W
 clear hz
 unfold dcV at *
 go_enter Tryz.func41,Tryz.ntmps41
 go_wp2_with fail
 refine (T0 _).mono ?_
 rintro e w1 ⟨rfl,h1⟩
 have D1:Hid (DcB w1 w.heap.size (.string ⟨#[]⟩) (vI 0) (.bool false)):=by rw [h1];exact DcB.new w _ _ _ _
 have B1:Hid (Bl w w1):=by rw [h1];exact bz _ _
 clear h1 T0
 obtain ⟨_,a0,a1,a2,_,_,_⟩:=D1.out
 go_wp2_with fail
 refine (T1 _).mono ?_
 rintro e w2 ⟨rfl,h2⟩
 have D2:Hid (DcB w2 w.heap.size (.string ⟨#[]⟩) (vI 0) (.bool false)):=D1.out.step h2
 have B2:Hid (Bl w w2):=B1.out.trans (h2.mono B1.out.size)
 clear h2 T1 D1 B1 a0 a1 a2
 obtain ⟨_,a0,a1,a2,_,_,_⟩:=D2.out
 go_wp2
 exact bodyPost_ret (v:=.tuple #[vU 0,vI 0]) (by simp [results,Tryz.results41,go_sem]) rfl ⟨rfl,B2.out⟩
theorem aDu {s:Int}{g n f T:Nat}{L:Int}(h:Fz s g n f T L) {b:Nat}(hb:b<2 * g) (w:World):Cs 21 #[vU (b:Int),vI s] w (vU ((mg g b:Nat):Int)):=by
 rcases h with ⟨rfl,rfl,rfl,rfl,rfl,rfl⟩ | ⟨rfl,rfl,rfl,rfl,rfl,rfl⟩
 . exact iX hb w
 . exact iY hb w
theorem uU {s:ByteArray}(h:s.size=0):s=⟨#[]⟩:=by
 apply ByteArray.ext
 exact Array.eq_empty_of_size_eq_zero h
theorem iG {s:Int}{t:ByteArray}{p:Int}{c:Bool}{x k:Int}{w:World}
 (NR:∀ W,Cb 41 #[dcV t p c,vI s] W (.tuple #[vU x,vI k])) :
 Cb 20 #[dcV t p c,vI s] w (.tuple #[vU x,vI k]):=by
 unfold dcV at *
 have B0:Hid (Bl w (w.alloc (.cells #[.string t,vI p,.bool c] 24))):=bz _ _
 go_enter Tryz.func20,Tryz.ntmps20
 go_wp2_with fail
 refine (NR _).mono ?_
 rintro o w1 ⟨rfl,b1⟩
 have B1:Hid (Bl w w1):=B0.out.trans (b1.mono B0.out.size)
 clear b1 B0 NR
 go_wp2
 go_ret2
 exact ⟨rfl,B1.out⟩
def nrX (f T:Nat) (L:Int) (s:ByteArray) (p:Int) (c:Bool):Nat × Bool:=if s.size=0 then (0,false) else rdA f T L (frN s (nrP p)) (frD s (nrP p)) 0 c
theorem wV {z:Int}{g n f T:Nat}{L:Int}(hz:Fz z g n f T L) {s:ByteArray}{p:Int}{c:Bool}(h:VD s p c) (w:World):Cb 20 #[dcV s p c,vI z] w (.tuple #[vU (((nrX f T L s p c).1:Nat):Int),vI (if (nrX f T L s p c).2 then 4 else 0)]):=by
 rcases h with ⟨h,rfl,rfl⟩ | h
 . obtain rfl:=uU h
   exact iG fun W=>oF hz W
 . have e:nrX f T L s p c=rdA f T L (frN s (nrP p)) (frD s (nrP p)) 0 c:=by unfold nrX;rw [if_neg (by have:=h.pos;omega)]
   rw [e]
   exact iG fun W=>wU hz h W
theorem vT     (s : ByteArray) : ∀ n, dvA s 0 n = pv s n
  | 0 => rfl
  | n + 1 => by
    show dvA s 0 n * 10 + (dgt s (0 + n) - 48) = 10 * pv s n + (dgt s n - 48)
    rw [vT     s n, Nat.zero_add]
    omega
theorem qN {s:ByteArray}{p:Int}{X:Nat}(h:Dx s p X):frN s p * 10 ^ R0=X * frD s p:=by
 have lo:=h.lo
 unfold frN frD
 rw [vT,<- h.vl,Nat.mul_assoc,Nat.mul_assoc,<- Nat.pow_add,<- Nat.pow_add]
 congr 2
 omega
theorem qP (s:ByteArray) (p:Int):0<frD s p:=Nat.pow_pos (by decide)
theorem aCR {s:ByteArray}{p:Int}{X:Nat}(h:Dx s p X) (X0:0<X):frN s p ≠ 0:=by
 intro z
 have q:=qN h
 rw [z,Nat.zero_mul] at q
 have:=Nat.mul_pos X0 (qP s p)
 omega
theorem aEc {f T:Nat}{L:Int}(hF:Fs f T L) {m:Nat}(hm:m<T * 2 ^ f) {s:ByteArray}{p:Int}{X:Nat}(h:Dx s p X) (X0:0<X) (h1:-500<=p) (h2:p<=500) (i:InI f L m X):nrX f T L s p false=(m,false):=by
 have s0:=h.pos.2 X0
 unfold nrX nrP
 rw [if_neg (by omega),if_neg (by omega),if_neg (by omega)]
 exact aDm hF hm (aCR h X0) (qP s p) (qN h) i
theorem aAb:pwT 776<=pw2 26 * 5 ^ R0:=by decide +kernel
theorem wF:pw2 1024<pwT 310:=by decide +kernel
theorem aAX (n:Nat):pw2 n * 5 ^ n=pwT n:=by
 show 2 ^ n * 5 ^ n=10 ^ n
 rw [<- Nat.mul_pow]
theorem rE (a b:Nat):pw2 (a+b)=pw2 a * pw2 b:=Nat.pow_add 2 a b
theorem aBL {m k a b x:Nat}(h:x<=a * b) (m0:0<m) (ha:a<=k):x<=m * k * b :=
 Nat.le_trans h (Nat.mul_le_mul_right b (Nat.le_trans ha (Nat.le_mul_of_pos_left k m0)))
theorem zV {m k M K b c t P Q:Nat}(hm:m<=M) (hk:k<=K) (e1:M * K=c * t) (e2:t * b=Q) (hc:c<P) (q0:0<Q):m * k * b<P * Q:=by
 have a:m * k * b<=M * K * b:=Nat.mul_le_mul_right b (Nat.mul_le_mul hm hk)
 have e:M * K * b=c * Q:=by rw [e1,Nat.mul_assoc,e2]
 exact Nat.lt_of_le_of_lt a (by rw [e];exact Nat.mul_lt_mul_of_pos_right hc q0)
theorem aCY {m:Nat}{e:Int}(m0:0<m) (h1:-1074<=e):pwT 776<=fv m e:=by
 unfold fv
 exact aBL aAb m0 (gG (show 26<=(e+(R0:Int)).toNat by unfold R0;omega))
theorem aBE {m:Nat}{e:Int}(hm:m<2 ^ 53) (h2:e<=971):fv m e<pwT 310 * pwT R0:=by
 unfold fv
 refine zV (M:=pw2 53) (Nat.le_of_lt hm) (gG (show (e+(R0:Int)).toNat<=971+R0 by omega)) (c:=pw2 1024) (t:=pw2 R0) ?_ (aAX R0) wF (Nat.pow_pos (by decide))
 rw [<- rE,<- rE]
 congr 1
theorem Fl.near_pt {z:Int}{f T:Nat}{L:Int}{S I b:Nat}{u:ByteArray}{o:Int}{s:ByteArray}{p:Int}{t:ByteArray}{q:Int}{A:Nat}{d1 d2:Nat -> Dp}(h:Fl z f T L S I b u o s p t q A d1 d2):-400<=o/\o<=400/\777<=A:=by
 obtain ⟨_,a,c⟩:=h.g.some h.pos
 have fs:=h.fn.sf.fs.1
 have x:=bR fs h.fn.m
 have m:=dS fs (mg S b)
 have l1:=aCY (fK (f:=f) h.m0) x.1
 have l2:=aBE m x.2
 have hA:=h.hA
 rw [hA] at a c
 rw [show ((A:Int) - 1).toNat=A - 1 by omega] at a
 rw [show ((A:Int)).toNat=A by omega] at c
 have y1:pwT 776<pwT A:=Nat.lt_of_le_of_lt l1 c
 rw [<- fQ] at l2
 have y2:pwT (A - 1)<pwT (310+R0):=Nat.lt_of_le_of_lt a l2
 have z1:=kV y1
 have z2:=kV y2
 have r:R0=1100:=rfl
 omega
theorem Fl.few {z:Int}{f T:Nat}{L:Int}{S I b:Nat}{u:ByteArray}{o:Int}{s:ByteArray}{p:Int}{t:ByteArray}{q:Int}{A:Nat}{d1 d2:Nat -> Dp}(h:Fl z f T L S I b u o s p t q A d1 d2) {n:Nat}(n0:1<=n) (n1:n<=17) {d:Dp}(hd:d=d1 n \/ d=d2 n):d.1.size<=n/\o<=d.2/\d.2<=o+1:=by
 obtain ⟨c1,du,_,_⟩:=h.c n n0 n1
 rcases du.way with ⟨w,e1,e2,e3⟩ | ⟨w,m,k,mz,m1,_,_,e1,k1,_,K⟩
 . rcases hd with rfl | rfl
   . rw [e1,c1];exact ⟨w,by omega,by omega⟩
   . rw [e2,e3];exact ⟨w,by omega,by omega⟩
 . rcases hd with rfl | rfl
   . rw [e1,c1,aI (by omega)];exact ⟨by omega,by omega,by omega⟩
   . rcases K with ⟨_,e2,e3⟩ | ⟨k0,_,e2,e3⟩
     . rw [e2,e3]
       exact ⟨n0,by omega,by omega⟩
     . rw [e2,e3,bM k0 (by omega)];exact ⟨by omega,by omega,by omega⟩
theorem Fl.size {z:Int}{f T:Nat}{L:Int}{S I b:Nat}{u:ByteArray}{o:Int}{s:ByteArray}{p:Int}{t:ByteArray}{q:Int}{A:Nat}{d1 d2:Nat -> Dp}(h:Fl z f T L S I b u o s p t q A d1 d2) {c:Bool}{N:Nat}(n0:1<=N) (n1:N<=17) {d:Dp}(hd:fD c s p t q u d1 d2 N=some d) (hn:∀ m,1<=m -> m<N -> fD c s p t q u d1 d2 m=none):d.1.size=N:=by
 rcases h.pick c n0 n1 with ⟨a,_⟩ | ⟨d',Z,a,_,D,hb,w⟩
 . rw [a] at hd;cases hd
 . rw [a] at hd
   obtain rfl:=Option.some.inj hd
   obtain ⟨l1,l2,_⟩:=h.few n0 n1 w
   rcases Nat.eq_or_lt_of_le l1 with e | e
   . exact e
   . exfalso
     have Z0:0<Z:=by
      rcases Nat.eq_zero_or_pos Z with k | k
      . have x:=h.hd (c:=c) D
        rw [hb,k] at x
        have y:=cM.1 x.symm
        have r:=h.rm
        rcases w with w | w
        . obtain ⟨_,du,_,_⟩:=h.c N n0 n1
          rcases du.way with ⟨_,e1,_⟩ | ⟨_,m,_,mz,m1,_,_,e1,_⟩
          . have:=D.pos.1 (by rw [w,e1];exact h.pos);omega
          . have:=D.pos.1 (by rw [w,e1,aI (by omega)];exact mz);omega
        . obtain ⟨_,du,_,c4⟩:=h.c N n0 n1
          rw [w] at D
          have e1:=D.vl.symm.trans c4.vl
          have:=gP (X:=vlF f L (mg S b)) (cU (A - N))
          have:=r.below
          omega
      . exact k
     have d0:=D.pos.2 Z0
     have lo:=D.lo
     have hA:=h.hA
     have g:Z % 10 ^ (A - d'.1.size)=0:=by
      have vl:=D.vl
      rw [<- vl,show (d'.2+(R0:Int) - (d'.1.size:Int)).toNat=((d'.2+(R0:Int) - (d'.1.size:Int)).toNat - (A - d'.1.size))+(A - d'.1.size) by omega,Nat.pow_add,<- Nat.mul_assoc,Nat.mul_mod_left]
     have x:=h.hd (c:=c) D
     have hb':hdB c s p t q (d'.1,d'.2)=true:=hb
     rw [hb'] at x
     have y:=uQ h.rm (cU (A - d'.1.size)) x.symm g
     have k:=hn d'.1.size (by omega) e
     rw [h.none_iff c (by omega) (by omega),y] at k
     cases k
theorem Fl.back {z:Int}{f T:Nat}{L:Int}{S I b:Nat}{u:ByteArray}{o:Int}{s:ByteArray}{p:Int}{t:ByteArray}{q:Int}{A:Nat}{d1 d2:Nat -> Dp}(h:Fl z f T L S I b u o s p t q A d1 d2) {n:Nat}(n0:1<=n) (n1:n<=17) {d:Dp}(hd:fD (decide (b % 2=0)) s p t q u d1 d2 n=some d):VD d.1 d.2 false/\nrX f T L d.1 d.2 false=(mg S b,false):=by
 rcases h.pick (decide (b % 2=0)) n0 n1 with ⟨a,_⟩ | ⟨d',Z,a,_,D,hb,w⟩
 . rw [a] at hd;cases hd
 . rw [a] at hd
   obtain rfl:=Option.some.inj hd
   refine ⟨D.vd,?_⟩
   obtain ⟨_,l2,l3⟩:=h.few n0 n1 w
   obtain ⟨b1,b2,_⟩:=h.near_pt
   have x:=h.hd (c:=decide (b % 2=0)) D
   have hb':hdB (decide (b % 2=0)) s p t q (d'.1,d'.2)=true:=hb
   rw [hb'] at x
   have y:=cM.1 x.symm
   have ev:mg S b % 2=b % 2:=by
    have e:=h.fn.sf.fs.2.2.2.2.1
    obtain ⟨k,rfl⟩:∃ k,S=2 * k:=⟨S / 2,by omega⟩
    unfold mg
    rw [Nat.mod_mul_right_mod]
   have Z0:0<Z:=by
    have d0:0<d'.1.size:=by
     obtain ⟨_,du,_,_⟩:=h.c n n0 n1
     rcases du.way with ⟨_,e1,e2,_⟩ | ⟨_,m,k,mz,m1,_,_,e1,k1,_,K⟩
     . rcases w with rfl | rfl
       . rw [e1];exact h.pos
       . rw [e2];exact h.pos
     . rcases w with rfl | rfl
       . rw [e1,aI (by omega)];exact mz
       . rcases K with ⟨_,e2,_⟩ | ⟨k0,_,e2,_⟩
         . rw [e2];decide
         . rw [e2,bM k0 (by omega)];exact k0
    exact D.pos.1 d0
   have i:InI f L (mg S b) Z:=by
    unfold InI
    rcases y with ⟨e,y1,y2⟩ | ⟨_,y1,y2⟩
    . exact Or.inr ⟨by have:=of_decide_eq_true e;omega,y1,y2⟩
    . exact Or.inl ⟨y1,y2⟩
   exact aEc h.fn.sf.fs.1 h.fn.m D Z0 (by omega) (by omega) i
theorem Sf.fz {z:Int}{f T:Nat}{L:Int}{S I:Nat}(h:Sf z f T L S I):Fz z S I f T L:=by
 rcases h with ⟨rfl,rfl,rfl,rfl,rfl,rfl⟩ | ⟨rfl,rfl,rfl,rfl,rfl,rfl⟩
 . exact Or.inl ⟨rfl,rfl,rfl,rfl,rfl,rfl⟩
 . exact Or.inr ⟨rfl,rfl,rfl,rfl,rfl,rfl⟩
theorem Fl.near16 {z:Int}{f T:Nat}{L:Int}{S I b:Nat}{u:ByteArray}{o:Int}{s:ByteArray}{p:Int}{t:ByteArray}{q:Int}{A:Nat}{d1 d2:Nat -> Dp}(h:Fl z f T L S I b u o s p t q A d1 d2) {n:Nat}(n0:1<=n) (n1:n<=17) {d:Dp}(hd:fD (decide (b % 2=0)) s p t q u d1 d2 n=some d) (w:World) :
 Cb 20 #[dcV d.1 d.2 false,vI z] w (.tuple #[vU ((mg S b:Nat):Int),vI 0]):=by
 obtain ⟨vd,e⟩:=h.back n0 n1 hd
 have r:=wV h.fn.sf.fz vd w
 rw [e] at r
 exact r
theorem aCO {z:Int}{f T:Nat}{L:Int}{S I b:Nat}(h:Fn z f T L S I b) (w:World):Cb 21 #[vU (b:Int),vI z] w (vU ((mg S b:Nat):Int)):=eW (fun W=>aDu h.sf.fz h.lt W) w
theorem yF {b z m n:Int}(q1:(m == 0)=false) (WK:∀ W,Cb 13 #[] W (.bool true)) (HD:∀ W,Cb 8 #[vU b,vI z] W (.tuple #[.agg #[.string ⟨#[]⟩,vI 0,.bool false],.iface 69 (vI n)])) (HE:∀ W,Cb 18 #[vU b,vI z] W (.tuple #[.agg #[.string ⟨#[]⟩,vI 0,.bool false],vI m])) (w:World) :
 Cb 6 #[vU b,vI z] w (.bool true):=by
 have q2:¬ m=0:=by simpa using q1
 have q3:(m != 0)=true:=by simpa using q1
 have F0:Hid (Bl w w):=Below.refl _ _
 go_enter Tryz.func6,Tryz.ntmps6
 go_wp2_with fail
 all_goals first | (exfalso;omega) | skip
 refine (HD _).mono ?_
 rintro o1 w1 ⟨rfl,bb⟩
 have F1:Hid (Bl w w1):=(F0.out).trans (bb.mono (F0.out).size)
 clear F0
 clear bb
 have le0:=(F1.out).size
 have F2:Hid (Bk (w1.alloc (.cells #[.string ⟨#[]⟩,vI 0,.bool false] 24)) (w1.heap.size) [.string ⟨#[]⟩,vI 0,.bool false]/\Bl w (w1.alloc (.cells #[.string ⟨#[]⟩,vI 0,.bool false] 24))):=⟨Bk.new3 w1 (.string ⟨#[]⟩) (vI 0) (.bool false) 24,(F1.out).alloc ((F1.out).size) _⟩
 clear F1
 go_upto_region 2 with fail
 generalize (w1.alloc (.cells #[.string ⟨#[]⟩,vI 0,.bool false] 24))=w2 at *
 go_wp2_with fail
 all_goals first | (exfalso;omega) | skip
 refine (HE _).mono ?_
 rintro o3 w3 ⟨rfl,bb⟩
 have F3:Hid (Bk w3 (w1.heap.size) [.string ⟨#[]⟩,vI 0,.bool false]/\Bl w w3):=⟨(F2.out.1).step bb,(F2.out.2).trans (bb.mono (F2.out.2).size)⟩
 clear F2
 clear bb
 have lt0_1:=(F3.out.1).lt
 have le1:=(F3.out.2).size
 have F4:Hid (Bk (w3.alloc (.cells #[.string ⟨#[]⟩,vI 0,.bool false] 24)) (w1.heap.size) [.string ⟨#[]⟩,vI 0,.bool false]/\Bk (w3.alloc (.cells #[.string ⟨#[]⟩,vI 0,.bool false] 24)) (w3.heap.size) [.string ⟨#[]⟩,vI 0,.bool false]/\Bl w (w3.alloc (.cells #[.string ⟨#[]⟩,vI 0,.bool false] 24))):=⟨(F3.out.1).step (bz _ _),Bk.new3 w3 (.string ⟨#[]⟩) (vI 0) (.bool false) 24,(F3.out.2).alloc ((F3.out.2).size) _⟩
 clear F3
 go_upto_region 3 with fail
 generalize (w3.alloc (.cells #[.string ⟨#[]⟩,vI 0,.bool false] 24))=w4 at *
 have l1_0:=F4.out.1.lt
 have a1_0_0:=F4.out.1.cell 0 _ rfl
 have f1_0_0:=F4.out.1.fz 0
 have a1_0_1:=F4.out.1.cell 1 _ rfl
 have f1_0_1:=F4.out.1.fz 1
 have a1_0_2:=F4.out.1.cell 2 _ rfl
 have f1_0_2:=F4.out.1.fz 2
 have l1_1:=F4.out.2.1.lt
 have a1_1_0:=F4.out.2.1.cell 0 _ rfl
 have f1_1_0:=F4.out.2.1.fz 0
 have a1_1_1:=F4.out.2.1.cell 1 _ rfl
 have f1_1_1:=F4.out.2.1.fz 1
 have a1_1_2:=F4.out.2.1.cell 2 _ rfl
 have f1_1_2:=F4.out.2.1.fz 2
 have ne1_0_1:¬ w1.heap.size=w3.heap.size:=by omega
 have ne1_1_0:¬ w3.heap.size=w1.heap.size:=by omega
 go_wp2_with fail
 all_goals first | (exfalso;omega) | skip
 refine (WK _).mono ?_
 rintro o5 w5 ⟨rfl,bb⟩
 have F5:Hid (Bk w5 (w1.heap.size) [.string ⟨#[]⟩,vI 0,.bool false]/\Bk w5 (w3.heap.size) [.string ⟨#[]⟩,vI 0,.bool false]/\Bl w w5):=⟨(F4.out.1).step bb,(F4.out.2.1).step bb,(F4.out.2.2).trans (bb.mono (F4.out.2.2).size)⟩
 clear F4
 clear bb
 go_wp2
 go_ret
 exact ⟨rfl,F5.out.2.2⟩
theorem uC {b z:Int}(WK:∀ W,Cb 13 #[] W (.bool true)) (HD:∀ W,Cb 8 #[vU b,vI z] W (.tuple #[.agg #[.string ⟨#[]⟩,vI 0,.bool false],.nilIface])) (HE:∀ W,Cb 18 #[vU b,vI z] W (.tuple #[.agg #[.string ⟨#[]⟩,vI 0,.bool false],vI 0])) (w:World) :
 Cb 6 #[vU b,vI z] w (.bool true):=by
 have F0:Hid (Bl w w):=Below.refl _ _
 go_enter Tryz.func6,Tryz.ntmps6
 go_wp2_with fail
 all_goals first | (exfalso;omega) | skip
 refine (HD _).mono ?_
 rintro o1 w1 ⟨rfl,bb⟩
 have F1:Hid (Bl w w1):=(F0.out).trans (bb.mono (F0.out).size)
 clear F0
 clear bb
 have le0:=(F1.out).size
 have F2:Hid (Bk (w1.alloc (.cells #[.string ⟨#[]⟩,vI 0,.bool false] 24)) (w1.heap.size) [.string ⟨#[]⟩,vI 0,.bool false]/\Bl w (w1.alloc (.cells #[.string ⟨#[]⟩,vI 0,.bool false] 24))):=⟨Bk.new3 w1 (.string ⟨#[]⟩) (vI 0) (.bool false) 24,(F1.out).alloc ((F1.out).size) _⟩
 clear F1
 go_upto_region 2 with fail
 generalize (w1.alloc (.cells #[.string ⟨#[]⟩,vI 0,.bool false] 24))=w2 at *
 go_wp2_with fail
 all_goals first | (exfalso;omega) | skip
 refine (HE _).mono ?_
 rintro o3 w3 ⟨rfl,bb⟩
 have F3:Hid (Bk w3 (w1.heap.size) [.string ⟨#[]⟩,vI 0,.bool false]/\Bl w w3):=⟨(F2.out.1).step bb,(F2.out.2).trans (bb.mono (F2.out.2).size)⟩
 clear F2
 clear bb
 have lt0_1:=(F3.out.1).lt
 have le1:=(F3.out.2).size
 have F4:Hid (Bk (w3.alloc (.cells #[.string ⟨#[]⟩,vI 0,.bool false] 24)) (w1.heap.size) [.string ⟨#[]⟩,vI 0,.bool false]/\Bk (w3.alloc (.cells #[.string ⟨#[]⟩,vI 0,.bool false] 24)) (w3.heap.size) [.string ⟨#[]⟩,vI 0,.bool false]/\Bl w (w3.alloc (.cells #[.string ⟨#[]⟩,vI 0,.bool false] 24))):=⟨(F3.out.1).step (bz _ _),Bk.new3 w3 (.string ⟨#[]⟩) (vI 0) (.bool false) 24,(F3.out.2).alloc ((F3.out.2).size) _⟩
 clear F3
 go_upto_region 3 with fail
 generalize (w3.alloc (.cells #[.string ⟨#[]⟩,vI 0,.bool false] 24))=w4 at *
 have l1_0:=F4.out.1.lt
 have a1_0_0:=F4.out.1.cell 0 _ rfl
 have f1_0_0:=F4.out.1.fz 0
 have a1_0_1:=F4.out.1.cell 1 _ rfl
 have f1_0_1:=F4.out.1.fz 1
 have a1_0_2:=F4.out.1.cell 2 _ rfl
 have f1_0_2:=F4.out.1.fz 2
 have l1_1:=F4.out.2.1.lt
 have a1_1_0:=F4.out.2.1.cell 0 _ rfl
 have f1_1_0:=F4.out.2.1.fz 0
 have a1_1_1:=F4.out.2.1.cell 1 _ rfl
 have f1_1_1:=F4.out.2.1.fz 1
 have a1_1_2:=F4.out.2.1.cell 2 _ rfl
 have f1_1_2:=F4.out.2.1.fz 2
 have ne1_0_1:¬ w1.heap.size=w3.heap.size:=by omega
 have ne1_1_0:¬ w3.heap.size=w1.heap.size:=by omega
 go_wp2_with fail
 all_goals first | (exfalso;omega) | skip
 refine (WK _).mono ?_
 rintro o5 w5 ⟨rfl,bb⟩
 have F5:Hid (Bk w5 (w1.heap.size) [.string ⟨#[]⟩,vI 0,.bool false]/\Bk w5 (w3.heap.size) [.string ⟨#[]⟩,vI 0,.bool false]/\Bl w w5):=⟨(F4.out.1).step bb,(F4.out.2.1).step bb,(F4.out.2.2).trans (bb.mono (F4.out.2.2).size)⟩
 clear F4
 clear bb
 go_wp2
 go_ret
 exact ⟨rfl,F5.out.2.2⟩
theorem xW {b z x o d2:Int}{u d1:ByteArray}(u0:0<u.size) (n0:1<=d1.size) (n17:d1.size<=17) (hz:(z=32/\d1.size<=9) \/ ((z == 32)=false/\¬ z=32)) (nb:1<d1.size) (HD:∀ W,Cb 8 #[vU b,vI z] W (.tuple #[.agg #[.string d1,vI d2,.bool false],.nilIface])) (HE:∀ W,Cb 18 #[vU b,vI z] W (.tuple #[.agg #[.string u,vI o,.bool false],vI 0])) (HV:∀ W,Cb 19 #[.agg #[.string d1,vI d2,.bool false]] W (vI 0)) (HN:∀ W,Cb 20 #[.agg #[.string d1,vI d2,.bool false],vI z] W (.tuple #[vU x,vI 0])) (HM:∀ W,Cb 21 #[vU b,vI z] W (vU x)) (HB:∀ W,Cb 22 #[vU b,vI z,vI ((d1.size:Int) - 1)] W (.tuple #[.bool false,vI 0])) (WK:∀ W,Cb 13 #[] W (.bool true)) (HC:∀ W,Cb 23 #[.agg #[.string d1,vI d2,.bool false],.agg #[.string u,vI o,.bool false]] W (.tuple #[vI 0,vI 0]))  (w:World) :
 Cb 6 #[vU b,vI z] w (.bool true):=by
 have he:u.toList.isEmpty=false:=aB u0
 have wn:IntKind.i64.wrap ((d1.size:Int) - 1)=(d1.size:Int) - 1:=by
  unfold IntKind.wrap
  simp [IntKind.bits,IntKind.signed]
  omega
 have m1:¬ (d1.size:Int)<1:=by omega
 have m2:¬ 17<(d1.size:Int):=by omega
 have F0:Hid (Bl w w):=Below.refl _ _
 go_enter Tryz.func6,Tryz.ntmps6
 go_wp2_with fail
 all_goals first | (exfalso;omega) | skip
 refine (HD _).mono ?_
 rintro o1 w1 ⟨rfl,bb⟩
 have F1:Hid (Bl w w1):=(F0.out).trans (bb.mono (F0.out).size)
 clear F0
 clear bb
 have le0:=(F1.out).size
 have F2:Hid (Bk (w1.alloc (.cells #[.string d1,vI d2,.bool false] 24)) (w1.heap.size) [.string d1,vI d2,.bool false]/\Bl w (w1.alloc (.cells #[.string d1,vI d2,.bool false] 24))):=⟨Bk.new3 w1 (.string d1) (vI d2) (.bool false) 24,(F1.out).alloc ((F1.out).size) _⟩
 clear F1
 go_upto_region 2 with fail
 generalize (w1.alloc (.cells #[.string d1,vI d2,.bool false] 24))=w2 at *
 go_wp2_with fail
 all_goals first | (exfalso;omega) | skip
 refine (HE _).mono ?_
 rintro o3 w3 ⟨rfl,bb⟩
 have F3:Hid (Bk w3 (w1.heap.size) [.string d1,vI d2,.bool false]/\Bl w w3):=⟨(F2.out.1).step bb,(F2.out.2).trans (bb.mono (F2.out.2).size)⟩
 clear F2
 clear bb
 have lt0_1:=(F3.out.1).lt
 have le1:=(F3.out.2).size
 have F4:Hid (Bk (w3.alloc (.cells #[.string u,vI o,.bool false] 24)) (w1.heap.size) [.string d1,vI d2,.bool false]/\Bk (w3.alloc (.cells #[.string u,vI o,.bool false] 24)) (w3.heap.size) [.string u,vI o,.bool false]/\Bl w (w3.alloc (.cells #[.string u,vI o,.bool false] 24))):=⟨(F3.out.1).step (bz _ _),Bk.new3 w3 (.string u) (vI o) (.bool false) 24,(F3.out.2).alloc ((F3.out.2).size) _⟩
 clear F3
 go_upto_region 3 with fail
 generalize (w3.alloc (.cells #[.string u,vI o,.bool false] 24))=w4 at *
 have l1_0:=F4.out.1.lt
 have a1_0_0:=F4.out.1.cell 0 _ rfl
 have f1_0_0:=F4.out.1.fz 0
 have a1_0_1:=F4.out.1.cell 1 _ rfl
 have f1_0_1:=F4.out.1.fz 1
 have a1_0_2:=F4.out.1.cell 2 _ rfl
 have f1_0_2:=F4.out.1.fz 2
 have l1_1:=F4.out.2.1.lt
 have a1_1_0:=F4.out.2.1.cell 0 _ rfl
 have f1_1_0:=F4.out.2.1.fz 0
 have a1_1_1:=F4.out.2.1.cell 1 _ rfl
 have f1_1_1:=F4.out.2.1.fz 1
 have a1_1_2:=F4.out.2.1.cell 2 _ rfl
 have f1_1_2:=F4.out.2.1.fz 2
 have ne1_0_1:¬ w1.heap.size=w3.heap.size:=by omega
 have ne1_1_0:¬ w3.heap.size=w1.heap.size:=by omega
 go_upto_region 8 with fail
 go_cut [90] from 64 to 89 (fun v90 wx=>v90=.bool false/\Hid (Bk wx (w1.heap.size) [.string d1,vI d2,.bool false]/\Bk wx (w3.heap.size) [.string u,vI o,.bool false]/\Bl w wx))
 case first =>
  go_wp2_with fail
  refine (HV _).mono ?_
  rintro p1 v1 ⟨rfl,bb⟩
  have G1:Hid (Bk v1 (w1.heap.size) [.string d1,vI d2,.bool false]/\Bk v1 (w3.heap.size) [.string u,vI o,.bool false]/\Bl w v1):=⟨(F4.out.1).step bb,(F4.out.2.1).step bb,(F4.out.2.2).trans (bb.mono (F4.out.2.2).size)⟩
  clear bb
  clear l1_0 a1_0_0 f1_0_0 a1_0_1 f1_0_1 a1_0_2 f1_0_2 l1_1 a1_1_0 f1_1_0 a1_1_1 f1_1_1 a1_1_2 f1_1_2
  have d1_0_0:=(G1.out.1).cell 0 _ rfl
  have d1_0_1:=(G1.out.1).cell 1 _ rfl
  have d1_0_2:=(G1.out.1).cell 2 _ rfl
  have d1_1_0:=(G1.out.2.1).cell 0 _ rfl
  have d1_1_1:=(G1.out.2.1).cell 1 _ rfl
  have d1_1_2:=(G1.out.2.1).cell 2 _ rfl
  rcases hz with ⟨rfl,hz⟩ | ⟨hz,hz2⟩
  . have m3:¬ 9<(d1.size:Int):=by omega
    go_wp2
    all_goals go_meet
    all_goals exact ⟨by first | (simp;done) | (simp;omega),G1.out⟩
  . go_wp2
    all_goals go_meet
    all_goals exact ⟨by first | (simp;done) | (simp;omega),G1.out⟩
 case rest =>
 obtain ⟨rfl,HCC⟩:=hcut
 clear F4
 clear l1_0 a1_0_0 f1_0_0 a1_0_1 f1_0_1 a1_0_2 f1_0_2 l1_1 a1_1_0 f1_1_0 a1_1_1 f1_1_1 a1_1_2 f1_1_2
 have F50:Hid (Bk wc (w1.heap.size) [.string d1,vI d2,.bool false]/\Bk wc (w3.heap.size) [.string u,vI o,.bool false]/\Bl w wc):=HCC
 clear HCC
 have l6_0:=F50.out.1.lt
 have a6_0_0:=F50.out.1.cell 0 _ rfl
 have f6_0_0:=F50.out.1.fz 0
 have a6_0_1:=F50.out.1.cell 1 _ rfl
 have f6_0_1:=F50.out.1.fz 1
 have a6_0_2:=F50.out.1.cell 2 _ rfl
 have f6_0_2:=F50.out.1.fz 2
 have l6_1:=F50.out.2.1.lt
 have a6_1_0:=F50.out.2.1.cell 0 _ rfl
 have f6_1_0:=F50.out.2.1.fz 0
 have a6_1_1:=F50.out.2.1.cell 1 _ rfl
 have f6_1_1:=F50.out.2.1.fz 1
 have a6_1_2:=F50.out.2.1.cell 2 _ rfl
 have f6_1_2:=F50.out.2.1.fz 2
 have ne6_0_1:¬ w1.heap.size=w3.heap.size:=by omega
 have ne6_1_0:¬ w3.heap.size=w1.heap.size:=by omega
 go_wp2_with fail
 all_goals first | (exfalso;omega) | skip
 refine (HN _).mono ?_
 rintro o51 w51 ⟨rfl,bb⟩
 have F51:Hid (Bk w51 (w1.heap.size) [.string d1,vI d2,.bool false]/\Bk w51 (w3.heap.size) [.string u,vI o,.bool false]/\Bl w w51):=⟨(F50.out.1).step bb,(F50.out.2.1).step bb,(F50.out.2.2).trans (bb.mono (F50.out.2.2).size)⟩
 clear F50
 clear bb
 clear l6_0 a6_0_0 f6_0_0 a6_0_1 f6_0_1 a6_0_2 f6_0_2 l6_1 a6_1_0 f6_1_0 a6_1_1 f6_1_1 a6_1_2 f6_1_2
 have l7_0:=F51.out.1.lt
 have a7_0_0:=F51.out.1.cell 0 _ rfl
 have f7_0_0:=F51.out.1.fz 0
 have a7_0_1:=F51.out.1.cell 1 _ rfl
 have f7_0_1:=F51.out.1.fz 1
 have a7_0_2:=F51.out.1.cell 2 _ rfl
 have f7_0_2:=F51.out.1.fz 2
 have l7_1:=F51.out.2.1.lt
 have a7_1_0:=F51.out.2.1.cell 0 _ rfl
 have f7_1_0:=F51.out.2.1.fz 0
 have a7_1_1:=F51.out.2.1.cell 1 _ rfl
 have f7_1_1:=F51.out.2.1.fz 1
 have a7_1_2:=F51.out.2.1.cell 2 _ rfl
 have f7_1_2:=F51.out.2.1.fz 2
 have ne7_0_1:¬ w1.heap.size=w3.heap.size:=by omega
 have ne7_1_0:¬ w3.heap.size=w1.heap.size:=by omega
 go_wp2_with fail
 all_goals first | (exfalso;omega) | skip
 refine (HM _).mono ?_
 rintro o52 w52 ⟨rfl,bb⟩
 have F52:Hid (Bk w52 (w1.heap.size) [.string d1,vI d2,.bool false]/\Bk w52 (w3.heap.size) [.string u,vI o,.bool false]/\Bl w w52):=⟨(F51.out.1).step bb,(F51.out.2.1).step bb,(F51.out.2.2).trans (bb.mono (F51.out.2.2).size)⟩
 clear F51
 clear bb
 clear l7_0 a7_0_0 f7_0_0 a7_0_1 f7_0_1 a7_0_2 f7_0_2 l7_1 a7_1_0 f7_1_0 a7_1_1 f7_1_1 a7_1_2 f7_1_2
 have l8_0:=F52.out.1.lt
 have a8_0_0:=F52.out.1.cell 0 _ rfl
 have f8_0_0:=F52.out.1.fz 0
 have a8_0_1:=F52.out.1.cell 1 _ rfl
 have f8_0_1:=F52.out.1.fz 1
 have a8_0_2:=F52.out.1.cell 2 _ rfl
 have f8_0_2:=F52.out.1.fz 2
 have l8_1:=F52.out.2.1.lt
 have a8_1_0:=F52.out.2.1.cell 0 _ rfl
 have f8_1_0:=F52.out.2.1.fz 0
 have a8_1_1:=F52.out.2.1.cell 1 _ rfl
 have f8_1_1:=F52.out.2.1.fz 1
 have a8_1_2:=F52.out.2.1.cell 2 _ rfl
 have f8_1_2:=F52.out.2.1.fz 2
 have ne8_0_1:¬ w1.heap.size=w3.heap.size:=by omega
 have ne8_1_0:¬ w3.heap.size=w1.heap.size:=by omega
 have m4:1<(d1.size:Int):=by omega
 go_wp2_with fail
 all_goals first | (exfalso;omega) | skip
 refine (HB _).mono ?_
 rintro o53 w53 ⟨rfl,bb⟩
 have F53:Hid (Bk w53 (w1.heap.size) [.string d1,vI d2,.bool false]/\Bk w53 (w3.heap.size) [.string u,vI o,.bool false]/\Bl w w53):=⟨(F52.out.1).step bb,(F52.out.2.1).step bb,(F52.out.2.2).trans (bb.mono (F52.out.2.2).size)⟩
 clear F52
 clear bb
 clear l8_0 a8_0_0 f8_0_0 a8_0_1 f8_0_1 a8_0_2 f8_0_2 l8_1 a8_1_0 f8_1_0 a8_1_1 f8_1_1 a8_1_2 f8_1_2
 have l9_0:=F53.out.1.lt
 have a9_0_0:=F53.out.1.cell 0 _ rfl
 have f9_0_0:=F53.out.1.fz 0
 have a9_0_1:=F53.out.1.cell 1 _ rfl
 have f9_0_1:=F53.out.1.fz 1
 have a9_0_2:=F53.out.1.cell 2 _ rfl
 have f9_0_2:=F53.out.1.fz 2
 have l9_1:=F53.out.2.1.lt
 have a9_1_0:=F53.out.2.1.cell 0 _ rfl
 have f9_1_0:=F53.out.2.1.fz 0
 have a9_1_1:=F53.out.2.1.cell 1 _ rfl
 have f9_1_1:=F53.out.2.1.fz 1
 have a9_1_2:=F53.out.2.1.cell 2 _ rfl
 have f9_1_2:=F53.out.2.1.fz 2
 have ne9_0_1:¬ w1.heap.size=w3.heap.size:=by omega
 have ne9_1_0:¬ w3.heap.size=w1.heap.size:=by omega
 go_wp2_with fail
 all_goals first | (exfalso;omega) | skip
 refine (HC _).mono ?_
 rintro o54 w54 ⟨rfl,bb⟩
 have F54:Hid (Bk w54 (w1.heap.size) [.string d1,vI d2,.bool false]/\Bk w54 (w3.heap.size) [.string u,vI o,.bool false]/\Bl w w54):=⟨(F53.out.1).step bb,(F53.out.2.1).step bb,(F53.out.2.2).trans (bb.mono (F53.out.2.2).size)⟩
 clear F53
 clear bb
 clear l9_0 a9_0_0 f9_0_0 a9_0_1 f9_0_1 a9_0_2 f9_0_2 l9_1 a9_1_0 f9_1_0 a9_1_1 f9_1_1 a9_1_2 f9_1_2
 have l10_0:=F54.out.1.lt
 have a10_0_0:=F54.out.1.cell 0 _ rfl
 have f10_0_0:=F54.out.1.fz 0
 have a10_0_1:=F54.out.1.cell 1 _ rfl
 have f10_0_1:=F54.out.1.fz 1
 have a10_0_2:=F54.out.1.cell 2 _ rfl
 have f10_0_2:=F54.out.1.fz 2
 have l10_1:=F54.out.2.1.lt
 have a10_1_0:=F54.out.2.1.cell 0 _ rfl
 have f10_1_0:=F54.out.2.1.fz 0
 have a10_1_1:=F54.out.2.1.cell 1 _ rfl
 have f10_1_1:=F54.out.2.1.fz 1
 have a10_1_2:=F54.out.2.1.cell 2 _ rfl
 have f10_1_2:=F54.out.2.1.fz 2
 have ne10_0_1:¬ w1.heap.size=w3.heap.size:=by omega
 have ne10_1_0:¬ w3.heap.size=w1.heap.size:=by omega
 go_wp2_with fail
 all_goals first | (exfalso;omega) | skip
 refine (WK _).mono ?_
 rintro o55 w55 ⟨rfl,bb⟩
 have F55:Hid (Bk w55 (w1.heap.size) [.string d1,vI d2,.bool false]/\Bk w55 (w3.heap.size) [.string u,vI o,.bool false]/\Bl w w55):=⟨(F54.out.1).step bb,(F54.out.2.1).step bb,(F54.out.2.2).trans (bb.mono (F54.out.2.2).size)⟩
 clear F54
 clear bb
 go_wp2
 go_ret
 exact ⟨rfl,F55.out.2.2⟩
theorem xV {b z x o d2:Int}{u d1:ByteArray}(u0:0<u.size) (n0:1<=d1.size) (n17:d1.size<=17) (hz:(z=32/\d1.size<=9) \/ ((z == 32)=false/\¬ z=32)) (nb:¬ 1<d1.size) (HD:∀ W,Cb 8 #[vU b,vI z] W (.tuple #[.agg #[.string d1,vI d2,.bool false],.nilIface])) (HE:∀ W,Cb 18 #[vU b,vI z] W (.tuple #[.agg #[.string u,vI o,.bool false],vI 0])) (HV:∀ W,Cb 19 #[.agg #[.string d1,vI d2,.bool false]] W (vI 0)) (HN:∀ W,Cb 20 #[.agg #[.string d1,vI d2,.bool false],vI z] W (.tuple #[vU x,vI 0])) (HM:∀ W,Cb 21 #[vU b,vI z] W (vU x)) (WK:∀ W,Cb 13 #[] W (.bool true)) (HC:∀ W,Cb 23 #[.agg #[.string d1,vI d2,.bool false],.agg #[.string u,vI o,.bool false]] W (.tuple #[vI 0,vI 0]))  (w:World) :
 Cb 6 #[vU b,vI z] w (.bool true):=by
 have he:u.toList.isEmpty=false:=aB u0
 have wn:IntKind.i64.wrap ((d1.size:Int) - 1)=(d1.size:Int) - 1:=by
  unfold IntKind.wrap
  simp [IntKind.bits,IntKind.signed]
  omega
 have m1:¬ (d1.size:Int)<1:=by omega
 have m2:¬ 17<(d1.size:Int):=by omega
 have F0:Hid (Bl w w):=Below.refl _ _
 go_enter Tryz.func6,Tryz.ntmps6
 go_wp2_with fail
 all_goals first | (exfalso;omega) | skip
 refine (HD _).mono ?_
 rintro o1 w1 ⟨rfl,bb⟩
 have F1:Hid (Bl w w1):=(F0.out).trans (bb.mono (F0.out).size)
 clear F0
 clear bb
 have le0:=(F1.out).size
 have F2:Hid (Bk (w1.alloc (.cells #[.string d1,vI d2,.bool false] 24)) (w1.heap.size) [.string d1,vI d2,.bool false]/\Bl w (w1.alloc (.cells #[.string d1,vI d2,.bool false] 24))):=⟨Bk.new3 w1 (.string d1) (vI d2) (.bool false) 24,(F1.out).alloc ((F1.out).size) _⟩
 clear F1
 go_upto_region 2 with fail
 generalize (w1.alloc (.cells #[.string d1,vI d2,.bool false] 24))=w2 at *
 go_wp2_with fail
 all_goals first | (exfalso;omega) | skip
 refine (HE _).mono ?_
 rintro o3 w3 ⟨rfl,bb⟩
 have F3:Hid (Bk w3 (w1.heap.size) [.string d1,vI d2,.bool false]/\Bl w w3):=⟨(F2.out.1).step bb,(F2.out.2).trans (bb.mono (F2.out.2).size)⟩
 clear F2
 clear bb
 have lt0_1:=(F3.out.1).lt
 have le1:=(F3.out.2).size
 have F4:Hid (Bk (w3.alloc (.cells #[.string u,vI o,.bool false] 24)) (w1.heap.size) [.string d1,vI d2,.bool false]/\Bk (w3.alloc (.cells #[.string u,vI o,.bool false] 24)) (w3.heap.size) [.string u,vI o,.bool false]/\Bl w (w3.alloc (.cells #[.string u,vI o,.bool false] 24))):=⟨(F3.out.1).step (bz _ _),Bk.new3 w3 (.string u) (vI o) (.bool false) 24,(F3.out.2).alloc ((F3.out.2).size) _⟩
 clear F3
 go_upto_region 3 with fail
 generalize (w3.alloc (.cells #[.string u,vI o,.bool false] 24))=w4 at *
 have l1_0:=F4.out.1.lt
 have a1_0_0:=F4.out.1.cell 0 _ rfl
 have f1_0_0:=F4.out.1.fz 0
 have a1_0_1:=F4.out.1.cell 1 _ rfl
 have f1_0_1:=F4.out.1.fz 1
 have a1_0_2:=F4.out.1.cell 2 _ rfl
 have f1_0_2:=F4.out.1.fz 2
 have l1_1:=F4.out.2.1.lt
 have a1_1_0:=F4.out.2.1.cell 0 _ rfl
 have f1_1_0:=F4.out.2.1.fz 0
 have a1_1_1:=F4.out.2.1.cell 1 _ rfl
 have f1_1_1:=F4.out.2.1.fz 1
 have a1_1_2:=F4.out.2.1.cell 2 _ rfl
 have f1_1_2:=F4.out.2.1.fz 2
 have ne1_0_1:¬ w1.heap.size=w3.heap.size:=by omega
 have ne1_1_0:¬ w3.heap.size=w1.heap.size:=by omega
 go_upto_region 8 with fail
 go_cut [90] from 64 to 89 (fun v90 wx=>v90=.bool false/\Hid (Bk wx (w1.heap.size) [.string d1,vI d2,.bool false]/\Bk wx (w3.heap.size) [.string u,vI o,.bool false]/\Bl w wx))
 case first =>
  go_wp2_with fail
  refine (HV _).mono ?_
  rintro p1 v1 ⟨rfl,bb⟩
  have G1:Hid (Bk v1 (w1.heap.size) [.string d1,vI d2,.bool false]/\Bk v1 (w3.heap.size) [.string u,vI o,.bool false]/\Bl w v1):=⟨(F4.out.1).step bb,(F4.out.2.1).step bb,(F4.out.2.2).trans (bb.mono (F4.out.2.2).size)⟩
  clear bb
  clear l1_0 a1_0_0 f1_0_0 a1_0_1 f1_0_1 a1_0_2 f1_0_2 l1_1 a1_1_0 f1_1_0 a1_1_1 f1_1_1 a1_1_2 f1_1_2
  have d1_0_0:=(G1.out.1).cell 0 _ rfl
  have d1_0_1:=(G1.out.1).cell 1 _ rfl
  have d1_0_2:=(G1.out.1).cell 2 _ rfl
  have d1_1_0:=(G1.out.2.1).cell 0 _ rfl
  have d1_1_1:=(G1.out.2.1).cell 1 _ rfl
  have d1_1_2:=(G1.out.2.1).cell 2 _ rfl
  rcases hz with ⟨rfl,hz⟩ | ⟨hz,hz2⟩
  . have m3:¬ 9<(d1.size:Int):=by omega
    go_wp2
    all_goals go_meet
    all_goals exact ⟨by first | (simp;done) | (simp;omega),G1.out⟩
  . go_wp2
    all_goals go_meet
    all_goals exact ⟨by first | (simp;done) | (simp;omega),G1.out⟩
 case rest =>
 obtain ⟨rfl,HCC⟩:=hcut
 clear F4
 clear l1_0 a1_0_0 f1_0_0 a1_0_1 f1_0_1 a1_0_2 f1_0_2 l1_1 a1_1_0 f1_1_0 a1_1_1 f1_1_1 a1_1_2 f1_1_2
 have F50:Hid (Bk wc (w1.heap.size) [.string d1,vI d2,.bool false]/\Bk wc (w3.heap.size) [.string u,vI o,.bool false]/\Bl w wc):=HCC
 clear HCC
 have l6_0:=F50.out.1.lt
 have a6_0_0:=F50.out.1.cell 0 _ rfl
 have f6_0_0:=F50.out.1.fz 0
 have a6_0_1:=F50.out.1.cell 1 _ rfl
 have f6_0_1:=F50.out.1.fz 1
 have a6_0_2:=F50.out.1.cell 2 _ rfl
 have f6_0_2:=F50.out.1.fz 2
 have l6_1:=F50.out.2.1.lt
 have a6_1_0:=F50.out.2.1.cell 0 _ rfl
 have f6_1_0:=F50.out.2.1.fz 0
 have a6_1_1:=F50.out.2.1.cell 1 _ rfl
 have f6_1_1:=F50.out.2.1.fz 1
 have a6_1_2:=F50.out.2.1.cell 2 _ rfl
 have f6_1_2:=F50.out.2.1.fz 2
 have ne6_0_1:¬ w1.heap.size=w3.heap.size:=by omega
 have ne6_1_0:¬ w3.heap.size=w1.heap.size:=by omega
 go_wp2_with fail
 all_goals first | (exfalso;omega) | skip
 refine (HN _).mono ?_
 rintro o51 w51 ⟨rfl,bb⟩
 have F51:Hid (Bk w51 (w1.heap.size) [.string d1,vI d2,.bool false]/\Bk w51 (w3.heap.size) [.string u,vI o,.bool false]/\Bl w w51):=⟨(F50.out.1).step bb,(F50.out.2.1).step bb,(F50.out.2.2).trans (bb.mono (F50.out.2.2).size)⟩
 clear F50
 clear bb
 clear l6_0 a6_0_0 f6_0_0 a6_0_1 f6_0_1 a6_0_2 f6_0_2 l6_1 a6_1_0 f6_1_0 a6_1_1 f6_1_1 a6_1_2 f6_1_2
 have l7_0:=F51.out.1.lt
 have a7_0_0:=F51.out.1.cell 0 _ rfl
 have f7_0_0:=F51.out.1.fz 0
 have a7_0_1:=F51.out.1.cell 1 _ rfl
 have f7_0_1:=F51.out.1.fz 1
 have a7_0_2:=F51.out.1.cell 2 _ rfl
 have f7_0_2:=F51.out.1.fz 2
 have l7_1:=F51.out.2.1.lt
 have a7_1_0:=F51.out.2.1.cell 0 _ rfl
 have f7_1_0:=F51.out.2.1.fz 0
 have a7_1_1:=F51.out.2.1.cell 1 _ rfl
 have f7_1_1:=F51.out.2.1.fz 1
 have a7_1_2:=F51.out.2.1.cell 2 _ rfl
 have f7_1_2:=F51.out.2.1.fz 2
 have ne7_0_1:¬ w1.heap.size=w3.heap.size:=by omega
 have ne7_1_0:¬ w3.heap.size=w1.heap.size:=by omega
 go_wp2_with fail
 all_goals first | (exfalso;omega) | skip
 refine (HM _).mono ?_
 rintro o52 w52 ⟨rfl,bb⟩
 have F52:Hid (Bk w52 (w1.heap.size) [.string d1,vI d2,.bool false]/\Bk w52 (w3.heap.size) [.string u,vI o,.bool false]/\Bl w w52):=⟨(F51.out.1).step bb,(F51.out.2.1).step bb,(F51.out.2.2).trans (bb.mono (F51.out.2.2).size)⟩
 clear F51
 clear bb
 clear l7_0 a7_0_0 f7_0_0 a7_0_1 f7_0_1 a7_0_2 f7_0_2 l7_1 a7_1_0 f7_1_0 a7_1_1 f7_1_1 a7_1_2 f7_1_2
 have l8_0:=F52.out.1.lt
 have a8_0_0:=F52.out.1.cell 0 _ rfl
 have f8_0_0:=F52.out.1.fz 0
 have a8_0_1:=F52.out.1.cell 1 _ rfl
 have f8_0_1:=F52.out.1.fz 1
 have a8_0_2:=F52.out.1.cell 2 _ rfl
 have f8_0_2:=F52.out.1.fz 2
 have l8_1:=F52.out.2.1.lt
 have a8_1_0:=F52.out.2.1.cell 0 _ rfl
 have f8_1_0:=F52.out.2.1.fz 0
 have a8_1_1:=F52.out.2.1.cell 1 _ rfl
 have f8_1_1:=F52.out.2.1.fz 1
 have a8_1_2:=F52.out.2.1.cell 2 _ rfl
 have f8_1_2:=F52.out.2.1.fz 2
 have ne8_0_1:¬ w1.heap.size=w3.heap.size:=by omega
 have ne8_1_0:¬ w3.heap.size=w1.heap.size:=by omega
 have m4:¬ 1<(d1.size:Int):=by omega
 go_wp2_with fail
 all_goals first | (exfalso;omega) | skip
 refine (HC _).mono ?_
 rintro o53 w53 ⟨rfl,bb⟩
 have F53:Hid (Bk w53 (w1.heap.size) [.string d1,vI d2,.bool false]/\Bk w53 (w3.heap.size) [.string u,vI o,.bool false]/\Bl w w53):=⟨(F52.out.1).step bb,(F52.out.2.1).step bb,(F52.out.2.2).trans (bb.mono (F52.out.2.2).size)⟩
 clear F52
 clear bb
 clear l8_0 a8_0_0 f8_0_0 a8_0_1 f8_0_1 a8_0_2 f8_0_2 l8_1 a8_1_0 f8_1_0 a8_1_1 f8_1_1 a8_1_2 f8_1_2
 have l9_0:=F53.out.1.lt
 have a9_0_0:=F53.out.1.cell 0 _ rfl
 have f9_0_0:=F53.out.1.fz 0
 have a9_0_1:=F53.out.1.cell 1 _ rfl
 have f9_0_1:=F53.out.1.fz 1
 have a9_0_2:=F53.out.1.cell 2 _ rfl
 have f9_0_2:=F53.out.1.fz 2
 have l9_1:=F53.out.2.1.lt
 have a9_1_0:=F53.out.2.1.cell 0 _ rfl
 have f9_1_0:=F53.out.2.1.fz 0
 have a9_1_1:=F53.out.2.1.cell 1 _ rfl
 have f9_1_1:=F53.out.2.1.fz 1
 have a9_1_2:=F53.out.2.1.cell 2 _ rfl
 have f9_1_2:=F53.out.2.1.fz 2
 have ne9_0_1:¬ w1.heap.size=w3.heap.size:=by omega
 have ne9_1_0:¬ w3.heap.size=w1.heap.size:=by omega
 go_wp2_with fail
 all_goals first | (exfalso;omega) | skip
 refine (WK _).mono ?_
 rintro o54 w54 ⟨rfl,bb⟩
 have F54:Hid (Bk w54 (w1.heap.size) [.string d1,vI d2,.bool false]/\Bk w54 (w3.heap.size) [.string u,vI o,.bool false]/\Bl w w54):=⟨(F53.out.1).step bb,(F53.out.2.1).step bb,(F53.out.2.2).trans (bb.mono (F53.out.2.2).size)⟩
 clear F53
 clear bb
 go_wp2
 go_ret
 exact ⟨rfl,F54.out.2.2⟩
theorem xY {b z x o d2:Int}{u d1:ByteArray}(u0:0<u.size) (n0:1<=d1.size) (n17:d1.size<=17) (hz:(z=32/\d1.size<=9) \/ ((z == 32)=false/\¬ z=32)) (nb:1<d1.size) {e1:ByteArray}{c e2:Int}{up:Bool}(hc:c ≠ 0) (hup:decide (c<0)=up) (HD:∀ W,Cb 8 #[vU b,vI z] W (.tuple #[.agg #[.string d1,vI d2,.bool false],.nilIface])) (HE:∀ W,Cb 18 #[vU b,vI z] W (.tuple #[.agg #[.string u,vI o,.bool false],vI 0])) (HV:∀ W,Cb 19 #[.agg #[.string d1,vI d2,.bool false]] W (vI 0)) (HN:∀ W,Cb 20 #[.agg #[.string d1,vI d2,.bool false],vI z] W (.tuple #[vU x,vI 0])) (HM:∀ W,Cb 21 #[vU b,vI z] W (vU x)) (HB:∀ W,Cb 22 #[vU b,vI z,vI ((d1.size:Int) - 1)] W (.tuple #[.bool false,vI 0])) (WK:∀ W,Cb 13 #[] W (.bool true)) (HC:∀ W,Cb 23 #[.agg #[.string d1,vI d2,.bool false],.agg #[.string u,vI o,.bool false]] W (.tuple #[vI c,vI 0])) (HX:∀ W,Cb 24 #[.agg #[.string d1,vI d2,.bool false],vI (d1.size:Int),.bool up] W (.agg #[.string e1,vI e2,.bool false])) (HI:∀ W,Cb 25 #[.agg #[.string e1,vI e2,.bool false],vU b,vI z] W (.tuple #[.bool false,vI 0]))  (w:World) :
 Cb 6 #[vU b,vI z] w (.bool true):=by
 have he:u.toList.isEmpty=false:=aB u0
 have wn:IntKind.i64.wrap ((d1.size:Int) - 1)=(d1.size:Int) - 1:=by
  unfold IntKind.wrap
  simp [IntKind.bits,IntKind.signed]
  omega
 have m1:¬ (d1.size:Int)<1:=by omega
 have m2:¬ 17<(d1.size:Int):=by omega
 have F0:Hid (Bl w w):=Below.refl _ _
 go_enter Tryz.func6,Tryz.ntmps6
 go_wp2_with fail
 all_goals first | (exfalso;omega) | skip
 refine (HD _).mono ?_
 rintro o1 w1 ⟨rfl,bb⟩
 have F1:Hid (Bl w w1):=(F0.out).trans (bb.mono (F0.out).size)
 clear F0
 clear bb
 have le0:=(F1.out).size
 have F2:Hid (Bk (w1.alloc (.cells #[.string d1,vI d2,.bool false] 24)) (w1.heap.size) [.string d1,vI d2,.bool false]/\Bl w (w1.alloc (.cells #[.string d1,vI d2,.bool false] 24))):=⟨Bk.new3 w1 (.string d1) (vI d2) (.bool false) 24,(F1.out).alloc ((F1.out).size) _⟩
 clear F1
 go_upto_region 2 with fail
 generalize (w1.alloc (.cells #[.string d1,vI d2,.bool false] 24))=w2 at *
 go_wp2_with fail
 all_goals first | (exfalso;omega) | skip
 refine (HE _).mono ?_
 rintro o3 w3 ⟨rfl,bb⟩
 have F3:Hid (Bk w3 (w1.heap.size) [.string d1,vI d2,.bool false]/\Bl w w3):=⟨(F2.out.1).step bb,(F2.out.2).trans (bb.mono (F2.out.2).size)⟩
 clear F2
 clear bb
 have lt0_1:=(F3.out.1).lt
 have le1:=(F3.out.2).size
 have F4:Hid (Bk (w3.alloc (.cells #[.string u,vI o,.bool false] 24)) (w1.heap.size) [.string d1,vI d2,.bool false]/\Bk (w3.alloc (.cells #[.string u,vI o,.bool false] 24)) (w3.heap.size) [.string u,vI o,.bool false]/\Bl w (w3.alloc (.cells #[.string u,vI o,.bool false] 24))):=⟨(F3.out.1).step (bz _ _),Bk.new3 w3 (.string u) (vI o) (.bool false) 24,(F3.out.2).alloc ((F3.out.2).size) _⟩
 clear F3
 go_upto_region 3 with fail
 generalize (w3.alloc (.cells #[.string u,vI o,.bool false] 24))=w4 at *
 have l1_0:=F4.out.1.lt
 have a1_0_0:=F4.out.1.cell 0 _ rfl
 have f1_0_0:=F4.out.1.fz 0
 have a1_0_1:=F4.out.1.cell 1 _ rfl
 have f1_0_1:=F4.out.1.fz 1
 have a1_0_2:=F4.out.1.cell 2 _ rfl
 have f1_0_2:=F4.out.1.fz 2
 have l1_1:=F4.out.2.1.lt
 have a1_1_0:=F4.out.2.1.cell 0 _ rfl
 have f1_1_0:=F4.out.2.1.fz 0
 have a1_1_1:=F4.out.2.1.cell 1 _ rfl
 have f1_1_1:=F4.out.2.1.fz 1
 have a1_1_2:=F4.out.2.1.cell 2 _ rfl
 have f1_1_2:=F4.out.2.1.fz 2
 have ne1_0_1:¬ w1.heap.size=w3.heap.size:=by omega
 have ne1_1_0:¬ w3.heap.size=w1.heap.size:=by omega
 go_upto_region 8 with fail
 go_cut [90] from 64 to 89 (fun v90 wx=>v90=.bool false/\Hid (Bk wx (w1.heap.size) [.string d1,vI d2,.bool false]/\Bk wx (w3.heap.size) [.string u,vI o,.bool false]/\Bl w wx))
 case first =>
  go_wp2_with fail
  refine (HV _).mono ?_
  rintro p1 v1 ⟨rfl,bb⟩
  have G1:Hid (Bk v1 (w1.heap.size) [.string d1,vI d2,.bool false]/\Bk v1 (w3.heap.size) [.string u,vI o,.bool false]/\Bl w v1):=⟨(F4.out.1).step bb,(F4.out.2.1).step bb,(F4.out.2.2).trans (bb.mono (F4.out.2.2).size)⟩
  clear bb
  clear l1_0 a1_0_0 f1_0_0 a1_0_1 f1_0_1 a1_0_2 f1_0_2 l1_1 a1_1_0 f1_1_0 a1_1_1 f1_1_1 a1_1_2 f1_1_2
  have d1_0_0:=(G1.out.1).cell 0 _ rfl
  have d1_0_1:=(G1.out.1).cell 1 _ rfl
  have d1_0_2:=(G1.out.1).cell 2 _ rfl
  have d1_1_0:=(G1.out.2.1).cell 0 _ rfl
  have d1_1_1:=(G1.out.2.1).cell 1 _ rfl
  have d1_1_2:=(G1.out.2.1).cell 2 _ rfl
  rcases hz with ⟨rfl,hz⟩ | ⟨hz,hz2⟩
  . have m3:¬ 9<(d1.size:Int):=by omega
    go_wp2
    all_goals go_meet
    all_goals exact ⟨by first | (simp;done) | (simp;omega),G1.out⟩
  . go_wp2
    all_goals go_meet
    all_goals exact ⟨by first | (simp;done) | (simp;omega),G1.out⟩
 case rest =>
 obtain ⟨rfl,HCC⟩:=hcut
 clear F4
 clear l1_0 a1_0_0 f1_0_0 a1_0_1 f1_0_1 a1_0_2 f1_0_2 l1_1 a1_1_0 f1_1_0 a1_1_1 f1_1_1 a1_1_2 f1_1_2
 have F50:Hid (Bk wc (w1.heap.size) [.string d1,vI d2,.bool false]/\Bk wc (w3.heap.size) [.string u,vI o,.bool false]/\Bl w wc):=HCC
 clear HCC
 have l6_0:=F50.out.1.lt
 have a6_0_0:=F50.out.1.cell 0 _ rfl
 have f6_0_0:=F50.out.1.fz 0
 have a6_0_1:=F50.out.1.cell 1 _ rfl
 have f6_0_1:=F50.out.1.fz 1
 have a6_0_2:=F50.out.1.cell 2 _ rfl
 have f6_0_2:=F50.out.1.fz 2
 have l6_1:=F50.out.2.1.lt
 have a6_1_0:=F50.out.2.1.cell 0 _ rfl
 have f6_1_0:=F50.out.2.1.fz 0
 have a6_1_1:=F50.out.2.1.cell 1 _ rfl
 have f6_1_1:=F50.out.2.1.fz 1
 have a6_1_2:=F50.out.2.1.cell 2 _ rfl
 have f6_1_2:=F50.out.2.1.fz 2
 have ne6_0_1:¬ w1.heap.size=w3.heap.size:=by omega
 have ne6_1_0:¬ w3.heap.size=w1.heap.size:=by omega
 go_wp2_with fail
 all_goals first | (exfalso;omega) | skip
 refine (HN _).mono ?_
 rintro o51 w51 ⟨rfl,bb⟩
 have F51:Hid (Bk w51 (w1.heap.size) [.string d1,vI d2,.bool false]/\Bk w51 (w3.heap.size) [.string u,vI o,.bool false]/\Bl w w51):=⟨(F50.out.1).step bb,(F50.out.2.1).step bb,(F50.out.2.2).trans (bb.mono (F50.out.2.2).size)⟩
 clear F50
 clear bb
 clear l6_0 a6_0_0 f6_0_0 a6_0_1 f6_0_1 a6_0_2 f6_0_2 l6_1 a6_1_0 f6_1_0 a6_1_1 f6_1_1 a6_1_2 f6_1_2
 have l7_0:=F51.out.1.lt
 have a7_0_0:=F51.out.1.cell 0 _ rfl
 have f7_0_0:=F51.out.1.fz 0
 have a7_0_1:=F51.out.1.cell 1 _ rfl
 have f7_0_1:=F51.out.1.fz 1
 have a7_0_2:=F51.out.1.cell 2 _ rfl
 have f7_0_2:=F51.out.1.fz 2
 have l7_1:=F51.out.2.1.lt
 have a7_1_0:=F51.out.2.1.cell 0 _ rfl
 have f7_1_0:=F51.out.2.1.fz 0
 have a7_1_1:=F51.out.2.1.cell 1 _ rfl
 have f7_1_1:=F51.out.2.1.fz 1
 have a7_1_2:=F51.out.2.1.cell 2 _ rfl
 have f7_1_2:=F51.out.2.1.fz 2
 have ne7_0_1:¬ w1.heap.size=w3.heap.size:=by omega
 have ne7_1_0:¬ w3.heap.size=w1.heap.size:=by omega
 go_wp2_with fail
 all_goals first | (exfalso;omega) | skip
 refine (HM _).mono ?_
 rintro o52 w52 ⟨rfl,bb⟩
 have F52:Hid (Bk w52 (w1.heap.size) [.string d1,vI d2,.bool false]/\Bk w52 (w3.heap.size) [.string u,vI o,.bool false]/\Bl w w52):=⟨(F51.out.1).step bb,(F51.out.2.1).step bb,(F51.out.2.2).trans (bb.mono (F51.out.2.2).size)⟩
 clear F51
 clear bb
 clear l7_0 a7_0_0 f7_0_0 a7_0_1 f7_0_1 a7_0_2 f7_0_2 l7_1 a7_1_0 f7_1_0 a7_1_1 f7_1_1 a7_1_2 f7_1_2
 have l8_0:=F52.out.1.lt
 have a8_0_0:=F52.out.1.cell 0 _ rfl
 have f8_0_0:=F52.out.1.fz 0
 have a8_0_1:=F52.out.1.cell 1 _ rfl
 have f8_0_1:=F52.out.1.fz 1
 have a8_0_2:=F52.out.1.cell 2 _ rfl
 have f8_0_2:=F52.out.1.fz 2
 have l8_1:=F52.out.2.1.lt
 have a8_1_0:=F52.out.2.1.cell 0 _ rfl
 have f8_1_0:=F52.out.2.1.fz 0
 have a8_1_1:=F52.out.2.1.cell 1 _ rfl
 have f8_1_1:=F52.out.2.1.fz 1
 have a8_1_2:=F52.out.2.1.cell 2 _ rfl
 have f8_1_2:=F52.out.2.1.fz 2
 have ne8_0_1:¬ w1.heap.size=w3.heap.size:=by omega
 have ne8_1_0:¬ w3.heap.size=w1.heap.size:=by omega
 have m4:1<(d1.size:Int):=by omega
 go_wp2_with fail
 all_goals first | (exfalso;omega) | skip
 refine (HB _).mono ?_
 rintro o53 w53 ⟨rfl,bb⟩
 have F53:Hid (Bk w53 (w1.heap.size) [.string d1,vI d2,.bool false]/\Bk w53 (w3.heap.size) [.string u,vI o,.bool false]/\Bl w w53):=⟨(F52.out.1).step bb,(F52.out.2.1).step bb,(F52.out.2.2).trans (bb.mono (F52.out.2.2).size)⟩
 clear F52
 clear bb
 clear l8_0 a8_0_0 f8_0_0 a8_0_1 f8_0_1 a8_0_2 f8_0_2 l8_1 a8_1_0 f8_1_0 a8_1_1 f8_1_1 a8_1_2 f8_1_2
 have l9_0:=F53.out.1.lt
 have a9_0_0:=F53.out.1.cell 0 _ rfl
 have f9_0_0:=F53.out.1.fz 0
 have a9_0_1:=F53.out.1.cell 1 _ rfl
 have f9_0_1:=F53.out.1.fz 1
 have a9_0_2:=F53.out.1.cell 2 _ rfl
 have f9_0_2:=F53.out.1.fz 2
 have l9_1:=F53.out.2.1.lt
 have a9_1_0:=F53.out.2.1.cell 0 _ rfl
 have f9_1_0:=F53.out.2.1.fz 0
 have a9_1_1:=F53.out.2.1.cell 1 _ rfl
 have f9_1_1:=F53.out.2.1.fz 1
 have a9_1_2:=F53.out.2.1.cell 2 _ rfl
 have f9_1_2:=F53.out.2.1.fz 2
 have ne9_0_1:¬ w1.heap.size=w3.heap.size:=by omega
 have ne9_1_0:¬ w3.heap.size=w1.heap.size:=by omega
 go_wp2_with fail
 all_goals first | (exfalso;omega) | skip
 refine (HC _).mono ?_
 rintro o54 w54 ⟨rfl,bb⟩
 have F54:Hid (Bk w54 (w1.heap.size) [.string d1,vI d2,.bool false]/\Bk w54 (w3.heap.size) [.string u,vI o,.bool false]/\Bl w w54):=⟨(F53.out.1).step bb,(F53.out.2.1).step bb,(F53.out.2.2).trans (bb.mono (F53.out.2.2).size)⟩
 clear F53
 clear bb
 clear l9_0 a9_0_0 f9_0_0 a9_0_1 f9_0_1 a9_0_2 f9_0_2 l9_1 a9_1_0 f9_1_0 a9_1_1 f9_1_1 a9_1_2 f9_1_2
 have k0:(c == 0)=false:=beq_eq_false_iff_ne.mpr hc
 have l10_0:=F54.out.1.lt
 have a10_0_0:=F54.out.1.cell 0 _ rfl
 have f10_0_0:=F54.out.1.fz 0
 have a10_0_1:=F54.out.1.cell 1 _ rfl
 have f10_0_1:=F54.out.1.fz 1
 have a10_0_2:=F54.out.1.cell 2 _ rfl
 have f10_0_2:=F54.out.1.fz 2
 have l10_1:=F54.out.2.1.lt
 have a10_1_0:=F54.out.2.1.cell 0 _ rfl
 have f10_1_0:=F54.out.2.1.fz 0
 have a10_1_1:=F54.out.2.1.cell 1 _ rfl
 have f10_1_1:=F54.out.2.1.fz 1
 have a10_1_2:=F54.out.2.1.cell 2 _ rfl
 have f10_1_2:=F54.out.2.1.fz 2
 have ne10_0_1:¬ w1.heap.size=w3.heap.size:=by omega
 have ne10_1_0:¬ w3.heap.size=w1.heap.size:=by omega
 go_wp2_with fail
 all_goals first | (exfalso;omega) | skip
 refine (HX _).mono ?_
 rintro o55 w55 ⟨rfl,bb⟩
 have F55:Hid (Bk w55 (w1.heap.size) [.string d1,vI d2,.bool false]/\Bk w55 (w3.heap.size) [.string u,vI o,.bool false]/\Bl w w55):=⟨(F54.out.1).step bb,(F54.out.2.1).step bb,(F54.out.2.2).trans (bb.mono (F54.out.2.2).size)⟩
 clear F54
 clear bb
 clear l10_0 a10_0_0 f10_0_0 a10_0_1 f10_0_1 a10_0_2 f10_0_2 l10_1 a10_1_0 f10_1_0 a10_1_1 f10_1_1 a10_1_2 f10_1_2
 have lt0_2:=(F55.out.1).lt
 have lt1_2:=(F55.out.2.1).lt
 have le2:=(F55.out.2.2).size
 have F56:Hid (Bk (w55.alloc (.cells #[.string e1,vI e2,.bool false] 24)) (w1.heap.size) [.string d1,vI d2,.bool false]/\Bk (w55.alloc (.cells #[.string e1,vI e2,.bool false] 24)) (w3.heap.size) [.string u,vI o,.bool false]/\Bk (w55.alloc (.cells #[.string e1,vI e2,.bool false] 24)) (w55.heap.size) [.string e1,vI e2,.bool false]/\Bl w (w55.alloc (.cells #[.string e1,vI e2,.bool false] 24))):=⟨(F55.out.1).step (bz _ _),(F55.out.2.1).step (bz _ _),Bk.new3 w55 (.string e1) (vI e2) (.bool false) 24,(F55.out.2.2).alloc ((F55.out.2.2).size) _⟩
 clear F55
 go_upto_region 21 with fail
 generalize (w55.alloc (.cells #[.string e1,vI e2,.bool false] 24))=w56 at *
 have l11_0:=F56.out.1.lt
 have a11_0_0:=F56.out.1.cell 0 _ rfl
 have f11_0_0:=F56.out.1.fz 0
 have a11_0_1:=F56.out.1.cell 1 _ rfl
 have f11_0_1:=F56.out.1.fz 1
 have a11_0_2:=F56.out.1.cell 2 _ rfl
 have f11_0_2:=F56.out.1.fz 2
 have l11_1:=F56.out.2.1.lt
 have a11_1_0:=F56.out.2.1.cell 0 _ rfl
 have f11_1_0:=F56.out.2.1.fz 0
 have a11_1_1:=F56.out.2.1.cell 1 _ rfl
 have f11_1_1:=F56.out.2.1.fz 1
 have a11_1_2:=F56.out.2.1.cell 2 _ rfl
 have f11_1_2:=F56.out.2.1.fz 2
 have l11_2:=F56.out.2.2.1.lt
 have a11_2_0:=F56.out.2.2.1.cell 0 _ rfl
 have f11_2_0:=F56.out.2.2.1.fz 0
 have a11_2_1:=F56.out.2.2.1.cell 1 _ rfl
 have f11_2_1:=F56.out.2.2.1.fz 1
 have a11_2_2:=F56.out.2.2.1.cell 2 _ rfl
 have f11_2_2:=F56.out.2.2.1.fz 2
 have ne11_0_1:¬ w1.heap.size=w3.heap.size:=by omega
 have ne11_0_2:¬ w1.heap.size=w55.heap.size:=by omega
 have ne11_1_0:¬ w3.heap.size=w1.heap.size:=by omega
 have ne11_1_2:¬ w3.heap.size=w55.heap.size:=by omega
 have ne11_2_0:¬ w55.heap.size=w1.heap.size:=by omega
 have ne11_2_1:¬ w55.heap.size=w3.heap.size:=by omega
 go_wp2_with fail
 all_goals first | (exfalso;omega) | skip
 refine (HI _).mono ?_
 rintro o57 w57 ⟨rfl,bb⟩
 have F57:Hid (Bk w57 (w1.heap.size) [.string d1,vI d2,.bool false]/\Bk w57 (w3.heap.size) [.string u,vI o,.bool false]/\Bk w57 (w55.heap.size) [.string e1,vI e2,.bool false]/\Bl w w57):=⟨(F56.out.1).step bb,(F56.out.2.1).step bb,(F56.out.2.2.1).step bb,(F56.out.2.2.2).trans (bb.mono (F56.out.2.2.2).size)⟩
 clear F56
 clear bb
 clear l11_0 a11_0_0 f11_0_0 a11_0_1 f11_0_1 a11_0_2 f11_0_2 l11_1 a11_1_0 f11_1_0 a11_1_1 f11_1_1 a11_1_2 f11_1_2 l11_2 a11_2_0 f11_2_0 a11_2_1 f11_2_1 a11_2_2 f11_2_2
 have l12_0:=F57.out.1.lt
 have a12_0_0:=F57.out.1.cell 0 _ rfl
 have f12_0_0:=F57.out.1.fz 0
 have a12_0_1:=F57.out.1.cell 1 _ rfl
 have f12_0_1:=F57.out.1.fz 1
 have a12_0_2:=F57.out.1.cell 2 _ rfl
 have f12_0_2:=F57.out.1.fz 2
 have l12_1:=F57.out.2.1.lt
 have a12_1_0:=F57.out.2.1.cell 0 _ rfl
 have f12_1_0:=F57.out.2.1.fz 0
 have a12_1_1:=F57.out.2.1.cell 1 _ rfl
 have f12_1_1:=F57.out.2.1.fz 1
 have a12_1_2:=F57.out.2.1.cell 2 _ rfl
 have f12_1_2:=F57.out.2.1.fz 2
 have l12_2:=F57.out.2.2.1.lt
 have a12_2_0:=F57.out.2.2.1.cell 0 _ rfl
 have f12_2_0:=F57.out.2.2.1.fz 0
 have a12_2_1:=F57.out.2.2.1.cell 1 _ rfl
 have f12_2_1:=F57.out.2.2.1.fz 1
 have a12_2_2:=F57.out.2.2.1.cell 2 _ rfl
 have f12_2_2:=F57.out.2.2.1.fz 2
 have ne12_0_1:¬ w1.heap.size=w3.heap.size:=by omega
 have ne12_0_2:¬ w1.heap.size=w55.heap.size:=by omega
 have ne12_1_0:¬ w3.heap.size=w1.heap.size:=by omega
 have ne12_1_2:¬ w3.heap.size=w55.heap.size:=by omega
 have ne12_2_0:¬ w55.heap.size=w1.heap.size:=by omega
 have ne12_2_1:¬ w55.heap.size=w3.heap.size:=by omega
 go_wp2_with fail
 all_goals first | (exfalso;omega) | skip
 refine (WK _).mono ?_
 rintro o58 w58 ⟨rfl,bb⟩
 have F58:Hid (Bk w58 (w1.heap.size) [.string d1,vI d2,.bool false]/\Bk w58 (w3.heap.size) [.string u,vI o,.bool false]/\Bk w58 (w55.heap.size) [.string e1,vI e2,.bool false]/\Bl w w58):=⟨(F57.out.1).step bb,(F57.out.2.1).step bb,(F57.out.2.2.1).step bb,(F57.out.2.2.2).trans (bb.mono (F57.out.2.2.2).size)⟩
 clear F57
 clear bb
 go_wp2
 go_ret
 exact ⟨rfl,F58.out.2.2.2⟩
theorem xX {b z x o d2:Int}{u d1:ByteArray}(u0:0<u.size) (n0:1<=d1.size) (n17:d1.size<=17) (hz:(z=32/\d1.size<=9) \/ ((z == 32)=false/\¬ z=32)) (nb:¬ 1<d1.size) {e1:ByteArray}{c e2:Int}{up:Bool}(hc:c ≠ 0) (hup:decide (c<0)=up) (HD:∀ W,Cb 8 #[vU b,vI z] W (.tuple #[.agg #[.string d1,vI d2,.bool false],.nilIface])) (HE:∀ W,Cb 18 #[vU b,vI z] W (.tuple #[.agg #[.string u,vI o,.bool false],vI 0])) (HV:∀ W,Cb 19 #[.agg #[.string d1,vI d2,.bool false]] W (vI 0)) (HN:∀ W,Cb 20 #[.agg #[.string d1,vI d2,.bool false],vI z] W (.tuple #[vU x,vI 0])) (HM:∀ W,Cb 21 #[vU b,vI z] W (vU x)) (WK:∀ W,Cb 13 #[] W (.bool true)) (HC:∀ W,Cb 23 #[.agg #[.string d1,vI d2,.bool false],.agg #[.string u,vI o,.bool false]] W (.tuple #[vI c,vI 0])) (HX:∀ W,Cb 24 #[.agg #[.string d1,vI d2,.bool false],vI (d1.size:Int),.bool up] W (.agg #[.string e1,vI e2,.bool false])) (HI:∀ W,Cb 25 #[.agg #[.string e1,vI e2,.bool false],vU b,vI z] W (.tuple #[.bool false,vI 0]))  (w:World) :
 Cb 6 #[vU b,vI z] w (.bool true):=by
 have he:u.toList.isEmpty=false:=aB u0
 have wn:IntKind.i64.wrap ((d1.size:Int) - 1)=(d1.size:Int) - 1:=by
  unfold IntKind.wrap
  simp [IntKind.bits,IntKind.signed]
  omega
 have m1:¬ (d1.size:Int)<1:=by omega
 have m2:¬ 17<(d1.size:Int):=by omega
 have F0:Hid (Bl w w):=Below.refl _ _
 go_enter Tryz.func6,Tryz.ntmps6
 go_wp2_with fail
 all_goals first | (exfalso;omega) | skip
 refine (HD _).mono ?_
 rintro o1 w1 ⟨rfl,bb⟩
 have F1:Hid (Bl w w1):=(F0.out).trans (bb.mono (F0.out).size)
 clear F0
 clear bb
 have le0:=(F1.out).size
 have F2:Hid (Bk (w1.alloc (.cells #[.string d1,vI d2,.bool false] 24)) (w1.heap.size) [.string d1,vI d2,.bool false]/\Bl w (w1.alloc (.cells #[.string d1,vI d2,.bool false] 24))):=⟨Bk.new3 w1 (.string d1) (vI d2) (.bool false) 24,(F1.out).alloc ((F1.out).size) _⟩
 clear F1
 go_upto_region 2 with fail
 generalize (w1.alloc (.cells #[.string d1,vI d2,.bool false] 24))=w2 at *
 go_wp2_with fail
 all_goals first | (exfalso;omega) | skip
 refine (HE _).mono ?_
 rintro o3 w3 ⟨rfl,bb⟩
 have F3:Hid (Bk w3 (w1.heap.size) [.string d1,vI d2,.bool false]/\Bl w w3):=⟨(F2.out.1).step bb,(F2.out.2).trans (bb.mono (F2.out.2).size)⟩
 clear F2
 clear bb
 have lt0_1:=(F3.out.1).lt
 have le1:=(F3.out.2).size
 have F4:Hid (Bk (w3.alloc (.cells #[.string u,vI o,.bool false] 24)) (w1.heap.size) [.string d1,vI d2,.bool false]/\Bk (w3.alloc (.cells #[.string u,vI o,.bool false] 24)) (w3.heap.size) [.string u,vI o,.bool false]/\Bl w (w3.alloc (.cells #[.string u,vI o,.bool false] 24))):=⟨(F3.out.1).step (bz _ _),Bk.new3 w3 (.string u) (vI o) (.bool false) 24,(F3.out.2).alloc ((F3.out.2).size) _⟩
 clear F3
 go_upto_region 3 with fail
 generalize (w3.alloc (.cells #[.string u,vI o,.bool false] 24))=w4 at *
 have l1_0:=F4.out.1.lt
 have a1_0_0:=F4.out.1.cell 0 _ rfl
 have f1_0_0:=F4.out.1.fz 0
 have a1_0_1:=F4.out.1.cell 1 _ rfl
 have f1_0_1:=F4.out.1.fz 1
 have a1_0_2:=F4.out.1.cell 2 _ rfl
 have f1_0_2:=F4.out.1.fz 2
 have l1_1:=F4.out.2.1.lt
 have a1_1_0:=F4.out.2.1.cell 0 _ rfl
 have f1_1_0:=F4.out.2.1.fz 0
 have a1_1_1:=F4.out.2.1.cell 1 _ rfl
 have f1_1_1:=F4.out.2.1.fz 1
 have a1_1_2:=F4.out.2.1.cell 2 _ rfl
 have f1_1_2:=F4.out.2.1.fz 2
 have ne1_0_1:¬ w1.heap.size=w3.heap.size:=by omega
 have ne1_1_0:¬ w3.heap.size=w1.heap.size:=by omega
 go_upto_region 8 with fail
 go_cut [90] from 64 to 89 (fun v90 wx=>v90=.bool false/\Hid (Bk wx (w1.heap.size) [.string d1,vI d2,.bool false]/\Bk wx (w3.heap.size) [.string u,vI o,.bool false]/\Bl w wx))
 case first =>
  go_wp2_with fail
  refine (HV _).mono ?_
  rintro p1 v1 ⟨rfl,bb⟩
  have G1:Hid (Bk v1 (w1.heap.size) [.string d1,vI d2,.bool false]/\Bk v1 (w3.heap.size) [.string u,vI o,.bool false]/\Bl w v1):=⟨(F4.out.1).step bb,(F4.out.2.1).step bb,(F4.out.2.2).trans (bb.mono (F4.out.2.2).size)⟩
  clear bb
  clear l1_0 a1_0_0 f1_0_0 a1_0_1 f1_0_1 a1_0_2 f1_0_2 l1_1 a1_1_0 f1_1_0 a1_1_1 f1_1_1 a1_1_2 f1_1_2
  have d1_0_0:=(G1.out.1).cell 0 _ rfl
  have d1_0_1:=(G1.out.1).cell 1 _ rfl
  have d1_0_2:=(G1.out.1).cell 2 _ rfl
  have d1_1_0:=(G1.out.2.1).cell 0 _ rfl
  have d1_1_1:=(G1.out.2.1).cell 1 _ rfl
  have d1_1_2:=(G1.out.2.1).cell 2 _ rfl
  rcases hz with ⟨rfl,hz⟩ | ⟨hz,hz2⟩
  . have m3:¬ 9<(d1.size:Int):=by omega
    go_wp2
    all_goals go_meet
    all_goals exact ⟨by first | (simp;done) | (simp;omega),G1.out⟩
  . go_wp2
    all_goals go_meet
    all_goals exact ⟨by first | (simp;done) | (simp;omega),G1.out⟩
 case rest =>
 obtain ⟨rfl,HCC⟩:=hcut
 clear F4
 clear l1_0 a1_0_0 f1_0_0 a1_0_1 f1_0_1 a1_0_2 f1_0_2 l1_1 a1_1_0 f1_1_0 a1_1_1 f1_1_1 a1_1_2 f1_1_2
 have F50:Hid (Bk wc (w1.heap.size) [.string d1,vI d2,.bool false]/\Bk wc (w3.heap.size) [.string u,vI o,.bool false]/\Bl w wc):=HCC
 clear HCC
 have l6_0:=F50.out.1.lt
 have a6_0_0:=F50.out.1.cell 0 _ rfl
 have f6_0_0:=F50.out.1.fz 0
 have a6_0_1:=F50.out.1.cell 1 _ rfl
 have f6_0_1:=F50.out.1.fz 1
 have a6_0_2:=F50.out.1.cell 2 _ rfl
 have f6_0_2:=F50.out.1.fz 2
 have l6_1:=F50.out.2.1.lt
 have a6_1_0:=F50.out.2.1.cell 0 _ rfl
 have f6_1_0:=F50.out.2.1.fz 0
 have a6_1_1:=F50.out.2.1.cell 1 _ rfl
 have f6_1_1:=F50.out.2.1.fz 1
 have a6_1_2:=F50.out.2.1.cell 2 _ rfl
 have f6_1_2:=F50.out.2.1.fz 2
 have ne6_0_1:¬ w1.heap.size=w3.heap.size:=by omega
 have ne6_1_0:¬ w3.heap.size=w1.heap.size:=by omega
 go_wp2_with fail
 all_goals first | (exfalso;omega) | skip
 refine (HN _).mono ?_
 rintro o51 w51 ⟨rfl,bb⟩
 have F51:Hid (Bk w51 (w1.heap.size) [.string d1,vI d2,.bool false]/\Bk w51 (w3.heap.size) [.string u,vI o,.bool false]/\Bl w w51):=⟨(F50.out.1).step bb,(F50.out.2.1).step bb,(F50.out.2.2).trans (bb.mono (F50.out.2.2).size)⟩
 clear F50
 clear bb
 clear l6_0 a6_0_0 f6_0_0 a6_0_1 f6_0_1 a6_0_2 f6_0_2 l6_1 a6_1_0 f6_1_0 a6_1_1 f6_1_1 a6_1_2 f6_1_2
 have l7_0:=F51.out.1.lt
 have a7_0_0:=F51.out.1.cell 0 _ rfl
 have f7_0_0:=F51.out.1.fz 0
 have a7_0_1:=F51.out.1.cell 1 _ rfl
 have f7_0_1:=F51.out.1.fz 1
 have a7_0_2:=F51.out.1.cell 2 _ rfl
 have f7_0_2:=F51.out.1.fz 2
 have l7_1:=F51.out.2.1.lt
 have a7_1_0:=F51.out.2.1.cell 0 _ rfl
 have f7_1_0:=F51.out.2.1.fz 0
 have a7_1_1:=F51.out.2.1.cell 1 _ rfl
 have f7_1_1:=F51.out.2.1.fz 1
 have a7_1_2:=F51.out.2.1.cell 2 _ rfl
 have f7_1_2:=F51.out.2.1.fz 2
 have ne7_0_1:¬ w1.heap.size=w3.heap.size:=by omega
 have ne7_1_0:¬ w3.heap.size=w1.heap.size:=by omega
 go_wp2_with fail
 all_goals first | (exfalso;omega) | skip
 refine (HM _).mono ?_
 rintro o52 w52 ⟨rfl,bb⟩
 have F52:Hid (Bk w52 (w1.heap.size) [.string d1,vI d2,.bool false]/\Bk w52 (w3.heap.size) [.string u,vI o,.bool false]/\Bl w w52):=⟨(F51.out.1).step bb,(F51.out.2.1).step bb,(F51.out.2.2).trans (bb.mono (F51.out.2.2).size)⟩
 clear F51
 clear bb
 clear l7_0 a7_0_0 f7_0_0 a7_0_1 f7_0_1 a7_0_2 f7_0_2 l7_1 a7_1_0 f7_1_0 a7_1_1 f7_1_1 a7_1_2 f7_1_2
 have l8_0:=F52.out.1.lt
 have a8_0_0:=F52.out.1.cell 0 _ rfl
 have f8_0_0:=F52.out.1.fz 0
 have a8_0_1:=F52.out.1.cell 1 _ rfl
 have f8_0_1:=F52.out.1.fz 1
 have a8_0_2:=F52.out.1.cell 2 _ rfl
 have f8_0_2:=F52.out.1.fz 2
 have l8_1:=F52.out.2.1.lt
 have a8_1_0:=F52.out.2.1.cell 0 _ rfl
 have f8_1_0:=F52.out.2.1.fz 0
 have a8_1_1:=F52.out.2.1.cell 1 _ rfl
 have f8_1_1:=F52.out.2.1.fz 1
 have a8_1_2:=F52.out.2.1.cell 2 _ rfl
 have f8_1_2:=F52.out.2.1.fz 2
 have ne8_0_1:¬ w1.heap.size=w3.heap.size:=by omega
 have ne8_1_0:¬ w3.heap.size=w1.heap.size:=by omega
 have m4:¬ 1<(d1.size:Int):=by omega
 go_wp2_with fail
 all_goals first | (exfalso;omega) | skip
 refine (HC _).mono ?_
 rintro o53 w53 ⟨rfl,bb⟩
 have F53:Hid (Bk w53 (w1.heap.size) [.string d1,vI d2,.bool false]/\Bk w53 (w3.heap.size) [.string u,vI o,.bool false]/\Bl w w53):=⟨(F52.out.1).step bb,(F52.out.2.1).step bb,(F52.out.2.2).trans (bb.mono (F52.out.2.2).size)⟩
 clear F52
 clear bb
 clear l8_0 a8_0_0 f8_0_0 a8_0_1 f8_0_1 a8_0_2 f8_0_2 l8_1 a8_1_0 f8_1_0 a8_1_1 f8_1_1 a8_1_2 f8_1_2
 have k0:(c == 0)=false:=beq_eq_false_iff_ne.mpr hc
 have l9_0:=F53.out.1.lt
 have a9_0_0:=F53.out.1.cell 0 _ rfl
 have f9_0_0:=F53.out.1.fz 0
 have a9_0_1:=F53.out.1.cell 1 _ rfl
 have f9_0_1:=F53.out.1.fz 1
 have a9_0_2:=F53.out.1.cell 2 _ rfl
 have f9_0_2:=F53.out.1.fz 2
 have l9_1:=F53.out.2.1.lt
 have a9_1_0:=F53.out.2.1.cell 0 _ rfl
 have f9_1_0:=F53.out.2.1.fz 0
 have a9_1_1:=F53.out.2.1.cell 1 _ rfl
 have f9_1_1:=F53.out.2.1.fz 1
 have a9_1_2:=F53.out.2.1.cell 2 _ rfl
 have f9_1_2:=F53.out.2.1.fz 2
 have ne9_0_1:¬ w1.heap.size=w3.heap.size:=by omega
 have ne9_1_0:¬ w3.heap.size=w1.heap.size:=by omega
 go_wp2_with fail
 all_goals first | (exfalso;omega) | skip
 refine (HX _).mono ?_
 rintro o54 w54 ⟨rfl,bb⟩
 have F54:Hid (Bk w54 (w1.heap.size) [.string d1,vI d2,.bool false]/\Bk w54 (w3.heap.size) [.string u,vI o,.bool false]/\Bl w w54):=⟨(F53.out.1).step bb,(F53.out.2.1).step bb,(F53.out.2.2).trans (bb.mono (F53.out.2.2).size)⟩
 clear F53
 clear bb
 clear l9_0 a9_0_0 f9_0_0 a9_0_1 f9_0_1 a9_0_2 f9_0_2 l9_1 a9_1_0 f9_1_0 a9_1_1 f9_1_1 a9_1_2 f9_1_2
 have lt0_2:=(F54.out.1).lt
 have lt1_2:=(F54.out.2.1).lt
 have le2:=(F54.out.2.2).size
 have F55:Hid (Bk (w54.alloc (.cells #[.string e1,vI e2,.bool false] 24)) (w1.heap.size) [.string d1,vI d2,.bool false]/\Bk (w54.alloc (.cells #[.string e1,vI e2,.bool false] 24)) (w3.heap.size) [.string u,vI o,.bool false]/\Bk (w54.alloc (.cells #[.string e1,vI e2,.bool false] 24)) (w54.heap.size) [.string e1,vI e2,.bool false]/\Bl w (w54.alloc (.cells #[.string e1,vI e2,.bool false] 24))):=⟨(F54.out.1).step (bz _ _),(F54.out.2.1).step (bz _ _),Bk.new3 w54 (.string e1) (vI e2) (.bool false) 24,(F54.out.2.2).alloc ((F54.out.2.2).size) _⟩
 clear F54
 go_upto_region 21 with fail
 generalize (w54.alloc (.cells #[.string e1,vI e2,.bool false] 24))=w55 at *
 have l10_0:=F55.out.1.lt
 have a10_0_0:=F55.out.1.cell 0 _ rfl
 have f10_0_0:=F55.out.1.fz 0
 have a10_0_1:=F55.out.1.cell 1 _ rfl
 have f10_0_1:=F55.out.1.fz 1
 have a10_0_2:=F55.out.1.cell 2 _ rfl
 have f10_0_2:=F55.out.1.fz 2
 have l10_1:=F55.out.2.1.lt
 have a10_1_0:=F55.out.2.1.cell 0 _ rfl
 have f10_1_0:=F55.out.2.1.fz 0
 have a10_1_1:=F55.out.2.1.cell 1 _ rfl
 have f10_1_1:=F55.out.2.1.fz 1
 have a10_1_2:=F55.out.2.1.cell 2 _ rfl
 have f10_1_2:=F55.out.2.1.fz 2
 have l10_2:=F55.out.2.2.1.lt
 have a10_2_0:=F55.out.2.2.1.cell 0 _ rfl
 have f10_2_0:=F55.out.2.2.1.fz 0
 have a10_2_1:=F55.out.2.2.1.cell 1 _ rfl
 have f10_2_1:=F55.out.2.2.1.fz 1
 have a10_2_2:=F55.out.2.2.1.cell 2 _ rfl
 have f10_2_2:=F55.out.2.2.1.fz 2
 have ne10_0_1:¬ w1.heap.size=w3.heap.size:=by omega
 have ne10_0_2:¬ w1.heap.size=w54.heap.size:=by omega
 have ne10_1_0:¬ w3.heap.size=w1.heap.size:=by omega
 have ne10_1_2:¬ w3.heap.size=w54.heap.size:=by omega
 have ne10_2_0:¬ w54.heap.size=w1.heap.size:=by omega
 have ne10_2_1:¬ w54.heap.size=w3.heap.size:=by omega
 go_wp2_with fail
 all_goals first | (exfalso;omega) | skip
 refine (HI _).mono ?_
 rintro o56 w56 ⟨rfl,bb⟩
 have F56:Hid (Bk w56 (w1.heap.size) [.string d1,vI d2,.bool false]/\Bk w56 (w3.heap.size) [.string u,vI o,.bool false]/\Bk w56 (w54.heap.size) [.string e1,vI e2,.bool false]/\Bl w w56):=⟨(F55.out.1).step bb,(F55.out.2.1).step bb,(F55.out.2.2.1).step bb,(F55.out.2.2.2).trans (bb.mono (F55.out.2.2.2).size)⟩
 clear F55
 clear bb
 clear l10_0 a10_0_0 f10_0_0 a10_0_1 f10_0_1 a10_0_2 f10_0_2 l10_1 a10_1_0 f10_1_0 a10_1_1 f10_1_1 a10_1_2 f10_1_2 l10_2 a10_2_0 f10_2_0 a10_2_1 f10_2_1 a10_2_2 f10_2_2
 have l11_0:=F56.out.1.lt
 have a11_0_0:=F56.out.1.cell 0 _ rfl
 have f11_0_0:=F56.out.1.fz 0
 have a11_0_1:=F56.out.1.cell 1 _ rfl
 have f11_0_1:=F56.out.1.fz 1
 have a11_0_2:=F56.out.1.cell 2 _ rfl
 have f11_0_2:=F56.out.1.fz 2
 have l11_1:=F56.out.2.1.lt
 have a11_1_0:=F56.out.2.1.cell 0 _ rfl
 have f11_1_0:=F56.out.2.1.fz 0
 have a11_1_1:=F56.out.2.1.cell 1 _ rfl
 have f11_1_1:=F56.out.2.1.fz 1
 have a11_1_2:=F56.out.2.1.cell 2 _ rfl
 have f11_1_2:=F56.out.2.1.fz 2
 have l11_2:=F56.out.2.2.1.lt
 have a11_2_0:=F56.out.2.2.1.cell 0 _ rfl
 have f11_2_0:=F56.out.2.2.1.fz 0
 have a11_2_1:=F56.out.2.2.1.cell 1 _ rfl
 have f11_2_1:=F56.out.2.2.1.fz 1
 have a11_2_2:=F56.out.2.2.1.cell 2 _ rfl
 have f11_2_2:=F56.out.2.2.1.fz 2
 have ne11_0_1:¬ w1.heap.size=w3.heap.size:=by omega
 have ne11_0_2:¬ w1.heap.size=w54.heap.size:=by omega
 have ne11_1_0:¬ w3.heap.size=w1.heap.size:=by omega
 have ne11_1_2:¬ w3.heap.size=w54.heap.size:=by omega
 have ne11_2_0:¬ w54.heap.size=w1.heap.size:=by omega
 have ne11_2_1:¬ w54.heap.size=w3.heap.size:=by omega
 go_wp2_with fail
 all_goals first | (exfalso;omega) | skip
 refine (WK _).mono ?_
 rintro o57 w57 ⟨rfl,bb⟩
 have F57:Hid (Bk w57 (w1.heap.size) [.string d1,vI d2,.bool false]/\Bk w57 (w3.heap.size) [.string u,vI o,.bool false]/\Bk w57 (w54.heap.size) [.string e1,vI e2,.bool false]/\Bl w w57):=⟨(F56.out.1).step bb,(F56.out.2.1).step bb,(F56.out.2.2.1).step bb,(F56.out.2.2.2).trans (bb.mono (F56.out.2.2.2).size)⟩
 clear F56
 clear bb
 go_wp2
 go_ret
 exact ⟨rfl,F57.out.2.2.2⟩
theorem yA {b z x o d2:Int}{u d1:ByteArray}(u0:0<u.size) (n0:1<=d1.size) (n17:d1.size<=17) (hz:(z=32/\d1.size<=9) \/ ((z == 32)=false/\¬ z=32)) (nb:1<d1.size) {e1:ByteArray}{c e2:Int}{up:Bool}(hc:c ≠ 0) (hup:decide (c<0)=up) {g1 t1:ByteArray}{g2 t2 m:Int}(hd:DG d1) (ev:(dgt d1 (d1.size - 1) - 48) % 2=0) (HD:∀ W,Cb 8 #[vU b,vI z] W (.tuple #[.agg #[.string d1,vI d2,.bool false],.nilIface])) (HE:∀ W,Cb 18 #[vU b,vI z] W (.tuple #[.agg #[.string u,vI o,.bool false],vI 0])) (HV:∀ W,Cb 19 #[.agg #[.string d1,vI d2,.bool false]] W (vI 0)) (HN:∀ W,Cb 20 #[.agg #[.string d1,vI d2,.bool false],vI z] W (.tuple #[vU x,vI 0])) (HM:∀ W,Cb 21 #[vU b,vI z] W (vU x)) (HB:∀ W,Cb 22 #[vU b,vI z,vI ((d1.size:Int) - 1)] W (.tuple #[.bool false,vI 0])) (WK:∀ W,Cb 13 #[] W (.bool true)) (HC:∀ W,Cb 23 #[.agg #[.string d1,vI d2,.bool false],.agg #[.string u,vI o,.bool false]] W (.tuple #[vI c,vI 0])) (HX:∀ W,Cb 24 #[.agg #[.string d1,vI d2,.bool false],vI (d1.size:Int),.bool up] W (.agg #[.string e1,vI e2,.bool false])) (HI:∀ W,Cb 25 #[.agg #[.string e1,vI e2,.bool false],vU b,vI z] W (.tuple #[.bool true,vI 0])) (HP:∀ W,Cb 26 #[.agg #[.string d1,vI d2,.bool false],.agg #[.string e1,vI e2,.bool false]] W (.agg #[.string g1,vI g2,.bool false])) (HT:∀ W,Cb 27 #[.agg #[.string u,vI o,.bool false]] W (.tuple #[.agg #[.string t1,vI t2,.bool false],vI m])) (HK:∀ W,Cb 23 #[.agg #[.string t1,vI t2,.bool false],.agg #[.string g1,vI g2,.bool false]] W (.tuple #[vI 0,vI 0]))  (w:World) :
 Cb 6 #[vU b,vI z] w (.bool true):=by
 have hlt:d1.size - 1<d1.size:=by omega
 have dd:=aF hd (d1.size - 1)
 rw [aA hlt] at dd ev
 obtain ⟨y,hy⟩:∃ y,y=(d1[d1.size - 1]'hlt).toNat:=⟨_,rfl⟩
 rw [<- hy] at dd ev
 have ix:((d1.size:Int) - 1).toNat=d1.size - 1:=by omega
 have w5:IntKind.u8.wrap ((y:Int) - 48)=((y - 48:Nat):Int):=by
  unfold IntKind.wrap
  simp [IntKind.bits,IntKind.signed]
  omega
 have w6:(((y - 48:Nat):Int)).tmod 2=0:=by rw [Int.tmod_eq_emod_of_nonneg (by omega)];omega
 have w7:(((y - 48:Nat):Int)) % 2=0:=by omega
 have hidx:(d1[d1.size - 1]'hlt).toNat=y:=hy.symm
 clear hy hd ev dd
 have he:u.toList.isEmpty=false:=aB u0
 have wn:IntKind.i64.wrap ((d1.size:Int) - 1)=(d1.size:Int) - 1:=by
  unfold IntKind.wrap
  simp [IntKind.bits,IntKind.signed]
  omega
 have m1:¬ (d1.size:Int)<1:=by omega
 have m2:¬ 17<(d1.size:Int):=by omega
 have F0:Hid (Bl w w):=Below.refl _ _
 go_enter Tryz.func6,Tryz.ntmps6
 go_wp2_with fail
 all_goals first | (exfalso;omega) | skip
 refine (HD _).mono ?_
 rintro o1 w1 ⟨rfl,bb⟩
 have F1:Hid (Bl w w1):=(F0.out).trans (bb.mono (F0.out).size)
 clear F0
 clear bb
 have le0:=(F1.out).size
 have F2:Hid (Bk (w1.alloc (.cells #[.string d1,vI d2,.bool false] 24)) (w1.heap.size) [.string d1,vI d2,.bool false]/\Bl w (w1.alloc (.cells #[.string d1,vI d2,.bool false] 24))):=⟨Bk.new3 w1 (.string d1) (vI d2) (.bool false) 24,(F1.out).alloc ((F1.out).size) _⟩
 clear F1
 go_upto_region 2 with fail
 generalize (w1.alloc (.cells #[.string d1,vI d2,.bool false] 24))=w2 at *
 go_wp2_with fail
 all_goals first | (exfalso;omega) | skip
 refine (HE _).mono ?_
 rintro o3 w3 ⟨rfl,bb⟩
 have F3:Hid (Bk w3 (w1.heap.size) [.string d1,vI d2,.bool false]/\Bl w w3):=⟨(F2.out.1).step bb,(F2.out.2).trans (bb.mono (F2.out.2).size)⟩
 clear F2
 clear bb
 have lt0_1:=(F3.out.1).lt
 have le1:=(F3.out.2).size
 have F4:Hid (Bk (w3.alloc (.cells #[.string u,vI o,.bool false] 24)) (w1.heap.size) [.string d1,vI d2,.bool false]/\Bk (w3.alloc (.cells #[.string u,vI o,.bool false] 24)) (w3.heap.size) [.string u,vI o,.bool false]/\Bl w (w3.alloc (.cells #[.string u,vI o,.bool false] 24))):=⟨(F3.out.1).step (bz _ _),Bk.new3 w3 (.string u) (vI o) (.bool false) 24,(F3.out.2).alloc ((F3.out.2).size) _⟩
 clear F3
 go_upto_region 3 with fail
 generalize (w3.alloc (.cells #[.string u,vI o,.bool false] 24))=w4 at *
 have l1_0:=F4.out.1.lt
 have a1_0_0:=F4.out.1.cell 0 _ rfl
 have f1_0_0:=F4.out.1.fz 0
 have a1_0_1:=F4.out.1.cell 1 _ rfl
 have f1_0_1:=F4.out.1.fz 1
 have a1_0_2:=F4.out.1.cell 2 _ rfl
 have f1_0_2:=F4.out.1.fz 2
 have l1_1:=F4.out.2.1.lt
 have a1_1_0:=F4.out.2.1.cell 0 _ rfl
 have f1_1_0:=F4.out.2.1.fz 0
 have a1_1_1:=F4.out.2.1.cell 1 _ rfl
 have f1_1_1:=F4.out.2.1.fz 1
 have a1_1_2:=F4.out.2.1.cell 2 _ rfl
 have f1_1_2:=F4.out.2.1.fz 2
 have ne1_0_1:¬ w1.heap.size=w3.heap.size:=by omega
 have ne1_1_0:¬ w3.heap.size=w1.heap.size:=by omega
 go_upto_region 8 with fail
 go_cut [90] from 64 to 89 (fun v90 wx=>v90=.bool false/\Hid (Bk wx (w1.heap.size) [.string d1,vI d2,.bool false]/\Bk wx (w3.heap.size) [.string u,vI o,.bool false]/\Bl w wx))
 case first =>
  go_wp2_with fail
  refine (HV _).mono ?_
  rintro p1 v1 ⟨rfl,bb⟩
  have G1:Hid (Bk v1 (w1.heap.size) [.string d1,vI d2,.bool false]/\Bk v1 (w3.heap.size) [.string u,vI o,.bool false]/\Bl w v1):=⟨(F4.out.1).step bb,(F4.out.2.1).step bb,(F4.out.2.2).trans (bb.mono (F4.out.2.2).size)⟩
  clear bb
  clear l1_0 a1_0_0 f1_0_0 a1_0_1 f1_0_1 a1_0_2 f1_0_2 l1_1 a1_1_0 f1_1_0 a1_1_1 f1_1_1 a1_1_2 f1_1_2
  have d1_0_0:=(G1.out.1).cell 0 _ rfl
  have d1_0_1:=(G1.out.1).cell 1 _ rfl
  have d1_0_2:=(G1.out.1).cell 2 _ rfl
  have d1_1_0:=(G1.out.2.1).cell 0 _ rfl
  have d1_1_1:=(G1.out.2.1).cell 1 _ rfl
  have d1_1_2:=(G1.out.2.1).cell 2 _ rfl
  rcases hz with ⟨rfl,hz⟩ | ⟨hz,hz2⟩
  . have m3:¬ 9<(d1.size:Int):=by omega
    go_wp2
    all_goals go_meet
    all_goals exact ⟨by first | (simp;done) | (simp;omega),G1.out⟩
  . go_wp2
    all_goals go_meet
    all_goals exact ⟨by first | (simp;done) | (simp;omega),G1.out⟩
 case rest =>
 obtain ⟨rfl,HCC⟩:=hcut
 clear F4
 clear l1_0 a1_0_0 f1_0_0 a1_0_1 f1_0_1 a1_0_2 f1_0_2 l1_1 a1_1_0 f1_1_0 a1_1_1 f1_1_1 a1_1_2 f1_1_2
 have F50:Hid (Bk wc (w1.heap.size) [.string d1,vI d2,.bool false]/\Bk wc (w3.heap.size) [.string u,vI o,.bool false]/\Bl w wc):=HCC
 clear HCC
 have l6_0:=F50.out.1.lt
 have a6_0_0:=F50.out.1.cell 0 _ rfl
 have f6_0_0:=F50.out.1.fz 0
 have a6_0_1:=F50.out.1.cell 1 _ rfl
 have f6_0_1:=F50.out.1.fz 1
 have a6_0_2:=F50.out.1.cell 2 _ rfl
 have f6_0_2:=F50.out.1.fz 2
 have l6_1:=F50.out.2.1.lt
 have a6_1_0:=F50.out.2.1.cell 0 _ rfl
 have f6_1_0:=F50.out.2.1.fz 0
 have a6_1_1:=F50.out.2.1.cell 1 _ rfl
 have f6_1_1:=F50.out.2.1.fz 1
 have a6_1_2:=F50.out.2.1.cell 2 _ rfl
 have f6_1_2:=F50.out.2.1.fz 2
 have ne6_0_1:¬ w1.heap.size=w3.heap.size:=by omega
 have ne6_1_0:¬ w3.heap.size=w1.heap.size:=by omega
 go_wp2_with fail
 all_goals first | (exfalso;omega) | skip
 refine (HN _).mono ?_
 rintro o51 w51 ⟨rfl,bb⟩
 have F51:Hid (Bk w51 (w1.heap.size) [.string d1,vI d2,.bool false]/\Bk w51 (w3.heap.size) [.string u,vI o,.bool false]/\Bl w w51):=⟨(F50.out.1).step bb,(F50.out.2.1).step bb,(F50.out.2.2).trans (bb.mono (F50.out.2.2).size)⟩
 clear F50
 clear bb
 clear l6_0 a6_0_0 f6_0_0 a6_0_1 f6_0_1 a6_0_2 f6_0_2 l6_1 a6_1_0 f6_1_0 a6_1_1 f6_1_1 a6_1_2 f6_1_2
 have l7_0:=F51.out.1.lt
 have a7_0_0:=F51.out.1.cell 0 _ rfl
 have f7_0_0:=F51.out.1.fz 0
 have a7_0_1:=F51.out.1.cell 1 _ rfl
 have f7_0_1:=F51.out.1.fz 1
 have a7_0_2:=F51.out.1.cell 2 _ rfl
 have f7_0_2:=F51.out.1.fz 2
 have l7_1:=F51.out.2.1.lt
 have a7_1_0:=F51.out.2.1.cell 0 _ rfl
 have f7_1_0:=F51.out.2.1.fz 0
 have a7_1_1:=F51.out.2.1.cell 1 _ rfl
 have f7_1_1:=F51.out.2.1.fz 1
 have a7_1_2:=F51.out.2.1.cell 2 _ rfl
 have f7_1_2:=F51.out.2.1.fz 2
 have ne7_0_1:¬ w1.heap.size=w3.heap.size:=by omega
 have ne7_1_0:¬ w3.heap.size=w1.heap.size:=by omega
 go_wp2_with fail
 all_goals first | (exfalso;omega) | skip
 refine (HM _).mono ?_
 rintro o52 w52 ⟨rfl,bb⟩
 have F52:Hid (Bk w52 (w1.heap.size) [.string d1,vI d2,.bool false]/\Bk w52 (w3.heap.size) [.string u,vI o,.bool false]/\Bl w w52):=⟨(F51.out.1).step bb,(F51.out.2.1).step bb,(F51.out.2.2).trans (bb.mono (F51.out.2.2).size)⟩
 clear F51
 clear bb
 clear l7_0 a7_0_0 f7_0_0 a7_0_1 f7_0_1 a7_0_2 f7_0_2 l7_1 a7_1_0 f7_1_0 a7_1_1 f7_1_1 a7_1_2 f7_1_2
 have l8_0:=F52.out.1.lt
 have a8_0_0:=F52.out.1.cell 0 _ rfl
 have f8_0_0:=F52.out.1.fz 0
 have a8_0_1:=F52.out.1.cell 1 _ rfl
 have f8_0_1:=F52.out.1.fz 1
 have a8_0_2:=F52.out.1.cell 2 _ rfl
 have f8_0_2:=F52.out.1.fz 2
 have l8_1:=F52.out.2.1.lt
 have a8_1_0:=F52.out.2.1.cell 0 _ rfl
 have f8_1_0:=F52.out.2.1.fz 0
 have a8_1_1:=F52.out.2.1.cell 1 _ rfl
 have f8_1_1:=F52.out.2.1.fz 1
 have a8_1_2:=F52.out.2.1.cell 2 _ rfl
 have f8_1_2:=F52.out.2.1.fz 2
 have ne8_0_1:¬ w1.heap.size=w3.heap.size:=by omega
 have ne8_1_0:¬ w3.heap.size=w1.heap.size:=by omega
 have m4:1<(d1.size:Int):=by omega
 go_wp2_with fail
 all_goals first | (exfalso;omega) | skip
 refine (HB _).mono ?_
 rintro o53 w53 ⟨rfl,bb⟩
 have F53:Hid (Bk w53 (w1.heap.size) [.string d1,vI d2,.bool false]/\Bk w53 (w3.heap.size) [.string u,vI o,.bool false]/\Bl w w53):=⟨(F52.out.1).step bb,(F52.out.2.1).step bb,(F52.out.2.2).trans (bb.mono (F52.out.2.2).size)⟩
 clear F52
 clear bb
 clear l8_0 a8_0_0 f8_0_0 a8_0_1 f8_0_1 a8_0_2 f8_0_2 l8_1 a8_1_0 f8_1_0 a8_1_1 f8_1_1 a8_1_2 f8_1_2
 have l9_0:=F53.out.1.lt
 have a9_0_0:=F53.out.1.cell 0 _ rfl
 have f9_0_0:=F53.out.1.fz 0
 have a9_0_1:=F53.out.1.cell 1 _ rfl
 have f9_0_1:=F53.out.1.fz 1
 have a9_0_2:=F53.out.1.cell 2 _ rfl
 have f9_0_2:=F53.out.1.fz 2
 have l9_1:=F53.out.2.1.lt
 have a9_1_0:=F53.out.2.1.cell 0 _ rfl
 have f9_1_0:=F53.out.2.1.fz 0
 have a9_1_1:=F53.out.2.1.cell 1 _ rfl
 have f9_1_1:=F53.out.2.1.fz 1
 have a9_1_2:=F53.out.2.1.cell 2 _ rfl
 have f9_1_2:=F53.out.2.1.fz 2
 have ne9_0_1:¬ w1.heap.size=w3.heap.size:=by omega
 have ne9_1_0:¬ w3.heap.size=w1.heap.size:=by omega
 go_wp2_with fail
 all_goals first | (exfalso;omega) | skip
 refine (HC _).mono ?_
 rintro o54 w54 ⟨rfl,bb⟩
 have F54:Hid (Bk w54 (w1.heap.size) [.string d1,vI d2,.bool false]/\Bk w54 (w3.heap.size) [.string u,vI o,.bool false]/\Bl w w54):=⟨(F53.out.1).step bb,(F53.out.2.1).step bb,(F53.out.2.2).trans (bb.mono (F53.out.2.2).size)⟩
 clear F53
 clear bb
 clear l9_0 a9_0_0 f9_0_0 a9_0_1 f9_0_1 a9_0_2 f9_0_2 l9_1 a9_1_0 f9_1_0 a9_1_1 f9_1_1 a9_1_2 f9_1_2
 have k0:(c == 0)=false:=beq_eq_false_iff_ne.mpr hc
 have l10_0:=F54.out.1.lt
 have a10_0_0:=F54.out.1.cell 0 _ rfl
 have f10_0_0:=F54.out.1.fz 0
 have a10_0_1:=F54.out.1.cell 1 _ rfl
 have f10_0_1:=F54.out.1.fz 1
 have a10_0_2:=F54.out.1.cell 2 _ rfl
 have f10_0_2:=F54.out.1.fz 2
 have l10_1:=F54.out.2.1.lt
 have a10_1_0:=F54.out.2.1.cell 0 _ rfl
 have f10_1_0:=F54.out.2.1.fz 0
 have a10_1_1:=F54.out.2.1.cell 1 _ rfl
 have f10_1_1:=F54.out.2.1.fz 1
 have a10_1_2:=F54.out.2.1.cell 2 _ rfl
 have f10_1_2:=F54.out.2.1.fz 2
 have ne10_0_1:¬ w1.heap.size=w3.heap.size:=by omega
 have ne10_1_0:¬ w3.heap.size=w1.heap.size:=by omega
 go_wp2_with fail
 all_goals first | (exfalso;omega) | skip
 refine (HX _).mono ?_
 rintro o55 w55 ⟨rfl,bb⟩
 have F55:Hid (Bk w55 (w1.heap.size) [.string d1,vI d2,.bool false]/\Bk w55 (w3.heap.size) [.string u,vI o,.bool false]/\Bl w w55):=⟨(F54.out.1).step bb,(F54.out.2.1).step bb,(F54.out.2.2).trans (bb.mono (F54.out.2.2).size)⟩
 clear F54
 clear bb
 clear l10_0 a10_0_0 f10_0_0 a10_0_1 f10_0_1 a10_0_2 f10_0_2 l10_1 a10_1_0 f10_1_0 a10_1_1 f10_1_1 a10_1_2 f10_1_2
 have lt0_2:=(F55.out.1).lt
 have lt1_2:=(F55.out.2.1).lt
 have le2:=(F55.out.2.2).size
 have F56:Hid (Bk (w55.alloc (.cells #[.string e1,vI e2,.bool false] 24)) (w1.heap.size) [.string d1,vI d2,.bool false]/\Bk (w55.alloc (.cells #[.string e1,vI e2,.bool false] 24)) (w3.heap.size) [.string u,vI o,.bool false]/\Bk (w55.alloc (.cells #[.string e1,vI e2,.bool false] 24)) (w55.heap.size) [.string e1,vI e2,.bool false]/\Bl w (w55.alloc (.cells #[.string e1,vI e2,.bool false] 24))):=⟨(F55.out.1).step (bz _ _),(F55.out.2.1).step (bz _ _),Bk.new3 w55 (.string e1) (vI e2) (.bool false) 24,(F55.out.2.2).alloc ((F55.out.2.2).size) _⟩
 clear F55
 go_upto_region 21 with fail
 generalize (w55.alloc (.cells #[.string e1,vI e2,.bool false] 24))=w56 at *
 have l11_0:=F56.out.1.lt
 have a11_0_0:=F56.out.1.cell 0 _ rfl
 have f11_0_0:=F56.out.1.fz 0
 have a11_0_1:=F56.out.1.cell 1 _ rfl
 have f11_0_1:=F56.out.1.fz 1
 have a11_0_2:=F56.out.1.cell 2 _ rfl
 have f11_0_2:=F56.out.1.fz 2
 have l11_1:=F56.out.2.1.lt
 have a11_1_0:=F56.out.2.1.cell 0 _ rfl
 have f11_1_0:=F56.out.2.1.fz 0
 have a11_1_1:=F56.out.2.1.cell 1 _ rfl
 have f11_1_1:=F56.out.2.1.fz 1
 have a11_1_2:=F56.out.2.1.cell 2 _ rfl
 have f11_1_2:=F56.out.2.1.fz 2
 have l11_2:=F56.out.2.2.1.lt
 have a11_2_0:=F56.out.2.2.1.cell 0 _ rfl
 have f11_2_0:=F56.out.2.2.1.fz 0
 have a11_2_1:=F56.out.2.2.1.cell 1 _ rfl
 have f11_2_1:=F56.out.2.2.1.fz 1
 have a11_2_2:=F56.out.2.2.1.cell 2 _ rfl
 have f11_2_2:=F56.out.2.2.1.fz 2
 have ne11_0_1:¬ w1.heap.size=w3.heap.size:=by omega
 have ne11_0_2:¬ w1.heap.size=w55.heap.size:=by omega
 have ne11_1_0:¬ w3.heap.size=w1.heap.size:=by omega
 have ne11_1_2:¬ w3.heap.size=w55.heap.size:=by omega
 have ne11_2_0:¬ w55.heap.size=w1.heap.size:=by omega
 have ne11_2_1:¬ w55.heap.size=w3.heap.size:=by omega
 go_wp2_with fail
 all_goals first | (exfalso;omega) | skip
 refine (HI _).mono ?_
 rintro o57 w57 ⟨rfl,bb⟩
 have F57:Hid (Bk w57 (w1.heap.size) [.string d1,vI d2,.bool false]/\Bk w57 (w3.heap.size) [.string u,vI o,.bool false]/\Bk w57 (w55.heap.size) [.string e1,vI e2,.bool false]/\Bl w w57):=⟨(F56.out.1).step bb,(F56.out.2.1).step bb,(F56.out.2.2.1).step bb,(F56.out.2.2.2).trans (bb.mono (F56.out.2.2.2).size)⟩
 clear F56
 clear bb
 clear l11_0 a11_0_0 f11_0_0 a11_0_1 f11_0_1 a11_0_2 f11_0_2 l11_1 a11_1_0 f11_1_0 a11_1_1 f11_1_1 a11_1_2 f11_1_2 l11_2 a11_2_0 f11_2_0 a11_2_1 f11_2_1 a11_2_2 f11_2_2
 have l12_0:=F57.out.1.lt
 have a12_0_0:=F57.out.1.cell 0 _ rfl
 have f12_0_0:=F57.out.1.fz 0
 have a12_0_1:=F57.out.1.cell 1 _ rfl
 have f12_0_1:=F57.out.1.fz 1
 have a12_0_2:=F57.out.1.cell 2 _ rfl
 have f12_0_2:=F57.out.1.fz 2
 have l12_1:=F57.out.2.1.lt
 have a12_1_0:=F57.out.2.1.cell 0 _ rfl
 have f12_1_0:=F57.out.2.1.fz 0
 have a12_1_1:=F57.out.2.1.cell 1 _ rfl
 have f12_1_1:=F57.out.2.1.fz 1
 have a12_1_2:=F57.out.2.1.cell 2 _ rfl
 have f12_1_2:=F57.out.2.1.fz 2
 have l12_2:=F57.out.2.2.1.lt
 have a12_2_0:=F57.out.2.2.1.cell 0 _ rfl
 have f12_2_0:=F57.out.2.2.1.fz 0
 have a12_2_1:=F57.out.2.2.1.cell 1 _ rfl
 have f12_2_1:=F57.out.2.2.1.fz 1
 have a12_2_2:=F57.out.2.2.1.cell 2 _ rfl
 have f12_2_2:=F57.out.2.2.1.fz 2
 have ne12_0_1:¬ w1.heap.size=w3.heap.size:=by omega
 have ne12_0_2:¬ w1.heap.size=w55.heap.size:=by omega
 have ne12_1_0:¬ w3.heap.size=w1.heap.size:=by omega
 have ne12_1_2:¬ w3.heap.size=w55.heap.size:=by omega
 have ne12_2_0:¬ w55.heap.size=w1.heap.size:=by omega
 have ne12_2_1:¬ w55.heap.size=w3.heap.size:=by omega
 go_wp2_with fail
 all_goals first | (exfalso;omega) | skip
 refine (HP _).mono ?_
 rintro o58 w58 ⟨rfl,bb⟩
 have F58:Hid (Bk w58 (w1.heap.size) [.string d1,vI d2,.bool false]/\Bk w58 (w3.heap.size) [.string u,vI o,.bool false]/\Bk w58 (w55.heap.size) [.string e1,vI e2,.bool false]/\Bl w w58):=⟨(F57.out.1).step bb,(F57.out.2.1).step bb,(F57.out.2.2.1).step bb,(F57.out.2.2.2).trans (bb.mono (F57.out.2.2.2).size)⟩
 clear F57
 clear bb
 clear l12_0 a12_0_0 f12_0_0 a12_0_1 f12_0_1 a12_0_2 f12_0_2 l12_1 a12_1_0 f12_1_0 a12_1_1 f12_1_1 a12_1_2 f12_1_2 l12_2 a12_2_0 f12_2_0 a12_2_1 f12_2_1 a12_2_2 f12_2_2
 have lt0_3:=(F58.out.1).lt
 have lt1_3:=(F58.out.2.1).lt
 have lt2_3:=(F58.out.2.2.1).lt
 have le3:=(F58.out.2.2.2).size
 have F59:Hid (Bk (w58.alloc (.cells #[.string g1,vI g2,.bool false] 24)) (w1.heap.size) [.string d1,vI d2,.bool false]/\Bk (w58.alloc (.cells #[.string g1,vI g2,.bool false] 24)) (w3.heap.size) [.string u,vI o,.bool false]/\Bk (w58.alloc (.cells #[.string g1,vI g2,.bool false] 24)) (w55.heap.size) [.string e1,vI e2,.bool false]/\Bk (w58.alloc (.cells #[.string g1,vI g2,.bool false] 24)) (w58.heap.size) [.string g1,vI g2,.bool false]/\Bl w (w58.alloc (.cells #[.string g1,vI g2,.bool false] 24))):=⟨(F58.out.1).step (bz _ _),(F58.out.2.1).step (bz _ _),(F58.out.2.2.1).step (bz _ _),Bk.new3 w58 (.string g1) (vI g2) (.bool false) 24,(F58.out.2.2.2).alloc ((F58.out.2.2.2).size) _⟩
 clear F58
 go_upto_region 25 with fail
 generalize (w58.alloc (.cells #[.string g1,vI g2,.bool false] 24))=w59 at *
 have l13_0:=F59.out.1.lt
 have a13_0_0:=F59.out.1.cell 0 _ rfl
 have f13_0_0:=F59.out.1.fz 0
 have a13_0_1:=F59.out.1.cell 1 _ rfl
 have f13_0_1:=F59.out.1.fz 1
 have a13_0_2:=F59.out.1.cell 2 _ rfl
 have f13_0_2:=F59.out.1.fz 2
 have l13_1:=F59.out.2.1.lt
 have a13_1_0:=F59.out.2.1.cell 0 _ rfl
 have f13_1_0:=F59.out.2.1.fz 0
 have a13_1_1:=F59.out.2.1.cell 1 _ rfl
 have f13_1_1:=F59.out.2.1.fz 1
 have a13_1_2:=F59.out.2.1.cell 2 _ rfl
 have f13_1_2:=F59.out.2.1.fz 2
 have l13_2:=F59.out.2.2.1.lt
 have a13_2_0:=F59.out.2.2.1.cell 0 _ rfl
 have f13_2_0:=F59.out.2.2.1.fz 0
 have a13_2_1:=F59.out.2.2.1.cell 1 _ rfl
 have f13_2_1:=F59.out.2.2.1.fz 1
 have a13_2_2:=F59.out.2.2.1.cell 2 _ rfl
 have f13_2_2:=F59.out.2.2.1.fz 2
 have l13_3:=F59.out.2.2.2.1.lt
 have a13_3_0:=F59.out.2.2.2.1.cell 0 _ rfl
 have f13_3_0:=F59.out.2.2.2.1.fz 0
 have a13_3_1:=F59.out.2.2.2.1.cell 1 _ rfl
 have f13_3_1:=F59.out.2.2.2.1.fz 1
 have a13_3_2:=F59.out.2.2.2.1.cell 2 _ rfl
 have f13_3_2:=F59.out.2.2.2.1.fz 2
 have ne13_0_1:¬ w1.heap.size=w3.heap.size:=by omega
 have ne13_0_2:¬ w1.heap.size=w55.heap.size:=by omega
 have ne13_0_3:¬ w1.heap.size=w58.heap.size:=by omega
 have ne13_1_0:¬ w3.heap.size=w1.heap.size:=by omega
 have ne13_1_2:¬ w3.heap.size=w55.heap.size:=by omega
 have ne13_1_3:¬ w3.heap.size=w58.heap.size:=by omega
 have ne13_2_0:¬ w55.heap.size=w1.heap.size:=by omega
 have ne13_2_1:¬ w55.heap.size=w3.heap.size:=by omega
 have ne13_2_3:¬ w55.heap.size=w58.heap.size:=by omega
 have ne13_3_0:¬ w58.heap.size=w1.heap.size:=by omega
 have ne13_3_1:¬ w58.heap.size=w3.heap.size:=by omega
 have ne13_3_2:¬ w58.heap.size=w55.heap.size:=by omega
 go_wp2_with fail
 all_goals first | (exfalso;omega) | skip
 refine (HT _).mono ?_
 rintro o60 w60 ⟨rfl,bb⟩
 have F60:Hid (Bk w60 (w1.heap.size) [.string d1,vI d2,.bool false]/\Bk w60 (w3.heap.size) [.string u,vI o,.bool false]/\Bk w60 (w55.heap.size) [.string e1,vI e2,.bool false]/\Bk w60 (w58.heap.size) [.string g1,vI g2,.bool false]/\Bl w w60):=⟨(F59.out.1).step bb,(F59.out.2.1).step bb,(F59.out.2.2.1).step bb,(F59.out.2.2.2.1).step bb,(F59.out.2.2.2.2).trans (bb.mono (F59.out.2.2.2.2).size)⟩
 clear F59
 clear bb
 clear l13_0 a13_0_0 f13_0_0 a13_0_1 f13_0_1 a13_0_2 f13_0_2 l13_1 a13_1_0 f13_1_0 a13_1_1 f13_1_1 a13_1_2 f13_1_2 l13_2 a13_2_0 f13_2_0 a13_2_1 f13_2_1 a13_2_2 f13_2_2 l13_3 a13_3_0 f13_3_0 a13_3_1 f13_3_1 a13_3_2 f13_3_2
 have lt0_4:=(F60.out.1).lt
 have lt1_4:=(F60.out.2.1).lt
 have lt2_4:=(F60.out.2.2.1).lt
 have lt3_4:=(F60.out.2.2.2.1).lt
 have le4:=(F60.out.2.2.2.2).size
 have F61:Hid (Bk (w60.alloc (.cells #[.string t1,vI t2,.bool false] 24)) (w1.heap.size) [.string d1,vI d2,.bool false]/\Bk (w60.alloc (.cells #[.string t1,vI t2,.bool false] 24)) (w3.heap.size) [.string u,vI o,.bool false]/\Bk (w60.alloc (.cells #[.string t1,vI t2,.bool false] 24)) (w55.heap.size) [.string e1,vI e2,.bool false]/\Bk (w60.alloc (.cells #[.string t1,vI t2,.bool false] 24)) (w58.heap.size) [.string g1,vI g2,.bool false]/\Bk (w60.alloc (.cells #[.string t1,vI t2,.bool false] 24)) (w60.heap.size) [.string t1,vI t2,.bool false]/\Bl w (w60.alloc (.cells #[.string t1,vI t2,.bool false] 24))):=⟨(F60.out.1).step (bz _ _),(F60.out.2.1).step (bz _ _),(F60.out.2.2.1).step (bz _ _),(F60.out.2.2.2.1).step (bz _ _),Bk.new3 w60 (.string t1) (vI t2) (.bool false) 24,(F60.out.2.2.2.2).alloc ((F60.out.2.2.2.2).size) _⟩
 clear F60
 go_upto_region 26 with fail
 generalize (w60.alloc (.cells #[.string t1,vI t2,.bool false] 24))=w61 at *
 have l14_0:=F61.out.1.lt
 have a14_0_0:=F61.out.1.cell 0 _ rfl
 have f14_0_0:=F61.out.1.fz 0
 have a14_0_1:=F61.out.1.cell 1 _ rfl
 have f14_0_1:=F61.out.1.fz 1
 have a14_0_2:=F61.out.1.cell 2 _ rfl
 have f14_0_2:=F61.out.1.fz 2
 have l14_1:=F61.out.2.1.lt
 have a14_1_0:=F61.out.2.1.cell 0 _ rfl
 have f14_1_0:=F61.out.2.1.fz 0
 have a14_1_1:=F61.out.2.1.cell 1 _ rfl
 have f14_1_1:=F61.out.2.1.fz 1
 have a14_1_2:=F61.out.2.1.cell 2 _ rfl
 have f14_1_2:=F61.out.2.1.fz 2
 have l14_2:=F61.out.2.2.1.lt
 have a14_2_0:=F61.out.2.2.1.cell 0 _ rfl
 have f14_2_0:=F61.out.2.2.1.fz 0
 have a14_2_1:=F61.out.2.2.1.cell 1 _ rfl
 have f14_2_1:=F61.out.2.2.1.fz 1
 have a14_2_2:=F61.out.2.2.1.cell 2 _ rfl
 have f14_2_2:=F61.out.2.2.1.fz 2
 have l14_3:=F61.out.2.2.2.1.lt
 have a14_3_0:=F61.out.2.2.2.1.cell 0 _ rfl
 have f14_3_0:=F61.out.2.2.2.1.fz 0
 have a14_3_1:=F61.out.2.2.2.1.cell 1 _ rfl
 have f14_3_1:=F61.out.2.2.2.1.fz 1
 have a14_3_2:=F61.out.2.2.2.1.cell 2 _ rfl
 have f14_3_2:=F61.out.2.2.2.1.fz 2
 have l14_4:=F61.out.2.2.2.2.1.lt
 have a14_4_0:=F61.out.2.2.2.2.1.cell 0 _ rfl
 have f14_4_0:=F61.out.2.2.2.2.1.fz 0
 have a14_4_1:=F61.out.2.2.2.2.1.cell 1 _ rfl
 have f14_4_1:=F61.out.2.2.2.2.1.fz 1
 have a14_4_2:=F61.out.2.2.2.2.1.cell 2 _ rfl
 have f14_4_2:=F61.out.2.2.2.2.1.fz 2
 have ne14_0_1:¬ w1.heap.size=w3.heap.size:=by omega
 have ne14_0_2:¬ w1.heap.size=w55.heap.size:=by omega
 have ne14_0_3:¬ w1.heap.size=w58.heap.size:=by omega
 have ne14_0_4:¬ w1.heap.size=w60.heap.size:=by omega
 have ne14_1_0:¬ w3.heap.size=w1.heap.size:=by omega
 have ne14_1_2:¬ w3.heap.size=w55.heap.size:=by omega
 have ne14_1_3:¬ w3.heap.size=w58.heap.size:=by omega
 have ne14_1_4:¬ w3.heap.size=w60.heap.size:=by omega
 have ne14_2_0:¬ w55.heap.size=w1.heap.size:=by omega
 have ne14_2_1:¬ w55.heap.size=w3.heap.size:=by omega
 have ne14_2_3:¬ w55.heap.size=w58.heap.size:=by omega
 have ne14_2_4:¬ w55.heap.size=w60.heap.size:=by omega
 have ne14_3_0:¬ w58.heap.size=w1.heap.size:=by omega
 have ne14_3_1:¬ w58.heap.size=w3.heap.size:=by omega
 have ne14_3_2:¬ w58.heap.size=w55.heap.size:=by omega
 have ne14_3_4:¬ w58.heap.size=w60.heap.size:=by omega
 have ne14_4_0:¬ w60.heap.size=w1.heap.size:=by omega
 have ne14_4_1:¬ w60.heap.size=w3.heap.size:=by omega
 have ne14_4_2:¬ w60.heap.size=w55.heap.size:=by omega
 have ne14_4_3:¬ w60.heap.size=w58.heap.size:=by omega
 go_wp2_with fail
 all_goals first | (exfalso;omega) | skip
 refine (HK _).mono ?_
 rintro o62 w62 ⟨rfl,bb⟩
 have F62:Hid (Bk w62 (w1.heap.size) [.string d1,vI d2,.bool false]/\Bk w62 (w3.heap.size) [.string u,vI o,.bool false]/\Bk w62 (w55.heap.size) [.string e1,vI e2,.bool false]/\Bk w62 (w58.heap.size) [.string g1,vI g2,.bool false]/\Bk w62 (w60.heap.size) [.string t1,vI t2,.bool false]/\Bl w w62):=⟨(F61.out.1).step bb,(F61.out.2.1).step bb,(F61.out.2.2.1).step bb,(F61.out.2.2.2.1).step bb,(F61.out.2.2.2.2.1).step bb,(F61.out.2.2.2.2.2).trans (bb.mono (F61.out.2.2.2.2.2).size)⟩
 clear F61
 clear bb
 clear l14_0 a14_0_0 f14_0_0 a14_0_1 f14_0_1 a14_0_2 f14_0_2 l14_1 a14_1_0 f14_1_0 a14_1_1 f14_1_1 a14_1_2 f14_1_2 l14_2 a14_2_0 f14_2_0 a14_2_1 f14_2_1 a14_2_2 f14_2_2 l14_3 a14_3_0 f14_3_0 a14_3_1 f14_3_1 a14_3_2 f14_3_2 l14_4 a14_4_0 f14_4_0 a14_4_1 f14_4_1 a14_4_2 f14_4_2
 have l15_0:=F62.out.1.lt
 have a15_0_0:=F62.out.1.cell 0 _ rfl
 have f15_0_0:=F62.out.1.fz 0
 have a15_0_1:=F62.out.1.cell 1 _ rfl
 have f15_0_1:=F62.out.1.fz 1
 have a15_0_2:=F62.out.1.cell 2 _ rfl
 have f15_0_2:=F62.out.1.fz 2
 have l15_1:=F62.out.2.1.lt
 have a15_1_0:=F62.out.2.1.cell 0 _ rfl
 have f15_1_0:=F62.out.2.1.fz 0
 have a15_1_1:=F62.out.2.1.cell 1 _ rfl
 have f15_1_1:=F62.out.2.1.fz 1
 have a15_1_2:=F62.out.2.1.cell 2 _ rfl
 have f15_1_2:=F62.out.2.1.fz 2
 have l15_2:=F62.out.2.2.1.lt
 have a15_2_0:=F62.out.2.2.1.cell 0 _ rfl
 have f15_2_0:=F62.out.2.2.1.fz 0
 have a15_2_1:=F62.out.2.2.1.cell 1 _ rfl
 have f15_2_1:=F62.out.2.2.1.fz 1
 have a15_2_2:=F62.out.2.2.1.cell 2 _ rfl
 have f15_2_2:=F62.out.2.2.1.fz 2
 have l15_3:=F62.out.2.2.2.1.lt
 have a15_3_0:=F62.out.2.2.2.1.cell 0 _ rfl
 have f15_3_0:=F62.out.2.2.2.1.fz 0
 have a15_3_1:=F62.out.2.2.2.1.cell 1 _ rfl
 have f15_3_1:=F62.out.2.2.2.1.fz 1
 have a15_3_2:=F62.out.2.2.2.1.cell 2 _ rfl
 have f15_3_2:=F62.out.2.2.2.1.fz 2
 have l15_4:=F62.out.2.2.2.2.1.lt
 have a15_4_0:=F62.out.2.2.2.2.1.cell 0 _ rfl
 have f15_4_0:=F62.out.2.2.2.2.1.fz 0
 have a15_4_1:=F62.out.2.2.2.2.1.cell 1 _ rfl
 have f15_4_1:=F62.out.2.2.2.2.1.fz 1
 have a15_4_2:=F62.out.2.2.2.2.1.cell 2 _ rfl
 have f15_4_2:=F62.out.2.2.2.2.1.fz 2
 have ne15_0_1:¬ w1.heap.size=w3.heap.size:=by omega
 have ne15_0_2:¬ w1.heap.size=w55.heap.size:=by omega
 have ne15_0_3:¬ w1.heap.size=w58.heap.size:=by omega
 have ne15_0_4:¬ w1.heap.size=w60.heap.size:=by omega
 have ne15_1_0:¬ w3.heap.size=w1.heap.size:=by omega
 have ne15_1_2:¬ w3.heap.size=w55.heap.size:=by omega
 have ne15_1_3:¬ w3.heap.size=w58.heap.size:=by omega
 have ne15_1_4:¬ w3.heap.size=w60.heap.size:=by omega
 have ne15_2_0:¬ w55.heap.size=w1.heap.size:=by omega
 have ne15_2_1:¬ w55.heap.size=w3.heap.size:=by omega
 have ne15_2_3:¬ w55.heap.size=w58.heap.size:=by omega
 have ne15_2_4:¬ w55.heap.size=w60.heap.size:=by omega
 have ne15_3_0:¬ w58.heap.size=w1.heap.size:=by omega
 have ne15_3_1:¬ w58.heap.size=w3.heap.size:=by omega
 have ne15_3_2:¬ w58.heap.size=w55.heap.size:=by omega
 have ne15_3_4:¬ w58.heap.size=w60.heap.size:=by omega
 have ne15_4_0:¬ w60.heap.size=w1.heap.size:=by omega
 have ne15_4_1:¬ w60.heap.size=w3.heap.size:=by omega
 have ne15_4_2:¬ w60.heap.size=w55.heap.size:=by omega
 have ne15_4_3:¬ w60.heap.size=w58.heap.size:=by omega
 go_wp2_with fail
 all_goals first | (exfalso;omega) | skip
 refine (WK _).mono ?_
 rintro o63 w63 ⟨rfl,bb⟩
 have F63:Hid (Bk w63 (w1.heap.size) [.string d1,vI d2,.bool false]/\Bk w63 (w3.heap.size) [.string u,vI o,.bool false]/\Bk w63 (w55.heap.size) [.string e1,vI e2,.bool false]/\Bk w63 (w58.heap.size) [.string g1,vI g2,.bool false]/\Bk w63 (w60.heap.size) [.string t1,vI t2,.bool false]/\Bl w w63):=⟨(F62.out.1).step bb,(F62.out.2.1).step bb,(F62.out.2.2.1).step bb,(F62.out.2.2.2.1).step bb,(F62.out.2.2.2.2.1).step bb,(F62.out.2.2.2.2.2).trans (bb.mono (F62.out.2.2.2.2.2).size)⟩
 clear F62
 clear bb
 go_wp2
 go_ret
 exact ⟨rfl,F63.out.2.2.2.2.2⟩
theorem xZ {b z x o d2:Int}{u d1:ByteArray}(u0:0<u.size) (n0:1<=d1.size) (n17:d1.size<=17) (hz:(z=32/\d1.size<=9) \/ ((z == 32)=false/\¬ z=32)) (nb:¬ 1<d1.size) {e1:ByteArray}{c e2:Int}{up:Bool}(hc:c ≠ 0) (hup:decide (c<0)=up) {g1 t1:ByteArray}{g2 t2 m:Int}(hd:DG d1) (ev:(dgt d1 (d1.size - 1) - 48) % 2=0) (HD:∀ W,Cb 8 #[vU b,vI z] W (.tuple #[.agg #[.string d1,vI d2,.bool false],.nilIface])) (HE:∀ W,Cb 18 #[vU b,vI z] W (.tuple #[.agg #[.string u,vI o,.bool false],vI 0])) (HV:∀ W,Cb 19 #[.agg #[.string d1,vI d2,.bool false]] W (vI 0)) (HN:∀ W,Cb 20 #[.agg #[.string d1,vI d2,.bool false],vI z] W (.tuple #[vU x,vI 0])) (HM:∀ W,Cb 21 #[vU b,vI z] W (vU x)) (WK:∀ W,Cb 13 #[] W (.bool true)) (HC:∀ W,Cb 23 #[.agg #[.string d1,vI d2,.bool false],.agg #[.string u,vI o,.bool false]] W (.tuple #[vI c,vI 0])) (HX:∀ W,Cb 24 #[.agg #[.string d1,vI d2,.bool false],vI (d1.size:Int),.bool up] W (.agg #[.string e1,vI e2,.bool false])) (HI:∀ W,Cb 25 #[.agg #[.string e1,vI e2,.bool false],vU b,vI z] W (.tuple #[.bool true,vI 0])) (HP:∀ W,Cb 26 #[.agg #[.string d1,vI d2,.bool false],.agg #[.string e1,vI e2,.bool false]] W (.agg #[.string g1,vI g2,.bool false])) (HT:∀ W,Cb 27 #[.agg #[.string u,vI o,.bool false]] W (.tuple #[.agg #[.string t1,vI t2,.bool false],vI m])) (HK:∀ W,Cb 23 #[.agg #[.string t1,vI t2,.bool false],.agg #[.string g1,vI g2,.bool false]] W (.tuple #[vI 0,vI 0]))  (w:World) :
 Cb 6 #[vU b,vI z] w (.bool true):=by
 have hlt:d1.size - 1<d1.size:=by omega
 have dd:=aF hd (d1.size - 1)
 rw [aA hlt] at dd ev
 obtain ⟨y,hy⟩:∃ y,y=(d1[d1.size - 1]'hlt).toNat:=⟨_,rfl⟩
 rw [<- hy] at dd ev
 have ix:((d1.size:Int) - 1).toNat=d1.size - 1:=by omega
 have w5:IntKind.u8.wrap ((y:Int) - 48)=((y - 48:Nat):Int):=by
  unfold IntKind.wrap
  simp [IntKind.bits,IntKind.signed]
  omega
 have w6:(((y - 48:Nat):Int)).tmod 2=0:=by rw [Int.tmod_eq_emod_of_nonneg (by omega)];omega
 have w7:(((y - 48:Nat):Int)) % 2=0:=by omega
 have hidx:(d1[d1.size - 1]'hlt).toNat=y:=hy.symm
 clear hy hd ev dd
 have he:u.toList.isEmpty=false:=aB u0
 have wn:IntKind.i64.wrap ((d1.size:Int) - 1)=(d1.size:Int) - 1:=by
  unfold IntKind.wrap
  simp [IntKind.bits,IntKind.signed]
  omega
 have m1:¬ (d1.size:Int)<1:=by omega
 have m2:¬ 17<(d1.size:Int):=by omega
 have F0:Hid (Bl w w):=Below.refl _ _
 go_enter Tryz.func6,Tryz.ntmps6
 go_wp2_with fail
 all_goals first | (exfalso;omega) | skip
 refine (HD _).mono ?_
 rintro o1 w1 ⟨rfl,bb⟩
 have F1:Hid (Bl w w1):=(F0.out).trans (bb.mono (F0.out).size)
 clear F0
 clear bb
 have le0:=(F1.out).size
 have F2:Hid (Bk (w1.alloc (.cells #[.string d1,vI d2,.bool false] 24)) (w1.heap.size) [.string d1,vI d2,.bool false]/\Bl w (w1.alloc (.cells #[.string d1,vI d2,.bool false] 24))):=⟨Bk.new3 w1 (.string d1) (vI d2) (.bool false) 24,(F1.out).alloc ((F1.out).size) _⟩
 clear F1
 go_upto_region 2 with fail
 generalize (w1.alloc (.cells #[.string d1,vI d2,.bool false] 24))=w2 at *
 go_wp2_with fail
 all_goals first | (exfalso;omega) | skip
 refine (HE _).mono ?_
 rintro o3 w3 ⟨rfl,bb⟩
 have F3:Hid (Bk w3 (w1.heap.size) [.string d1,vI d2,.bool false]/\Bl w w3):=⟨(F2.out.1).step bb,(F2.out.2).trans (bb.mono (F2.out.2).size)⟩
 clear F2
 clear bb
 have lt0_1:=(F3.out.1).lt
 have le1:=(F3.out.2).size
 have F4:Hid (Bk (w3.alloc (.cells #[.string u,vI o,.bool false] 24)) (w1.heap.size) [.string d1,vI d2,.bool false]/\Bk (w3.alloc (.cells #[.string u,vI o,.bool false] 24)) (w3.heap.size) [.string u,vI o,.bool false]/\Bl w (w3.alloc (.cells #[.string u,vI o,.bool false] 24))):=⟨(F3.out.1).step (bz _ _),Bk.new3 w3 (.string u) (vI o) (.bool false) 24,(F3.out.2).alloc ((F3.out.2).size) _⟩
 clear F3
 go_upto_region 3 with fail
 generalize (w3.alloc (.cells #[.string u,vI o,.bool false] 24))=w4 at *
 have l1_0:=F4.out.1.lt
 have a1_0_0:=F4.out.1.cell 0 _ rfl
 have f1_0_0:=F4.out.1.fz 0
 have a1_0_1:=F4.out.1.cell 1 _ rfl
 have f1_0_1:=F4.out.1.fz 1
 have a1_0_2:=F4.out.1.cell 2 _ rfl
 have f1_0_2:=F4.out.1.fz 2
 have l1_1:=F4.out.2.1.lt
 have a1_1_0:=F4.out.2.1.cell 0 _ rfl
 have f1_1_0:=F4.out.2.1.fz 0
 have a1_1_1:=F4.out.2.1.cell 1 _ rfl
 have f1_1_1:=F4.out.2.1.fz 1
 have a1_1_2:=F4.out.2.1.cell 2 _ rfl
 have f1_1_2:=F4.out.2.1.fz 2
 have ne1_0_1:¬ w1.heap.size=w3.heap.size:=by omega
 have ne1_1_0:¬ w3.heap.size=w1.heap.size:=by omega
 go_upto_region 8 with fail
 go_cut [90] from 64 to 89 (fun v90 wx=>v90=.bool false/\Hid (Bk wx (w1.heap.size) [.string d1,vI d2,.bool false]/\Bk wx (w3.heap.size) [.string u,vI o,.bool false]/\Bl w wx))
 case first =>
  go_wp2_with fail
  refine (HV _).mono ?_
  rintro p1 v1 ⟨rfl,bb⟩
  have G1:Hid (Bk v1 (w1.heap.size) [.string d1,vI d2,.bool false]/\Bk v1 (w3.heap.size) [.string u,vI o,.bool false]/\Bl w v1):=⟨(F4.out.1).step bb,(F4.out.2.1).step bb,(F4.out.2.2).trans (bb.mono (F4.out.2.2).size)⟩
  clear bb
  clear l1_0 a1_0_0 f1_0_0 a1_0_1 f1_0_1 a1_0_2 f1_0_2 l1_1 a1_1_0 f1_1_0 a1_1_1 f1_1_1 a1_1_2 f1_1_2
  have d1_0_0:=(G1.out.1).cell 0 _ rfl
  have d1_0_1:=(G1.out.1).cell 1 _ rfl
  have d1_0_2:=(G1.out.1).cell 2 _ rfl
  have d1_1_0:=(G1.out.2.1).cell 0 _ rfl
  have d1_1_1:=(G1.out.2.1).cell 1 _ rfl
  have d1_1_2:=(G1.out.2.1).cell 2 _ rfl
  rcases hz with ⟨rfl,hz⟩ | ⟨hz,hz2⟩
  . have m3:¬ 9<(d1.size:Int):=by omega
    go_wp2
    all_goals go_meet
    all_goals exact ⟨by first | (simp;done) | (simp;omega),G1.out⟩
  . go_wp2
    all_goals go_meet
    all_goals exact ⟨by first | (simp;done) | (simp;omega),G1.out⟩
 case rest =>
 obtain ⟨rfl,HCC⟩:=hcut
 clear F4
 clear l1_0 a1_0_0 f1_0_0 a1_0_1 f1_0_1 a1_0_2 f1_0_2 l1_1 a1_1_0 f1_1_0 a1_1_1 f1_1_1 a1_1_2 f1_1_2
 have F50:Hid (Bk wc (w1.heap.size) [.string d1,vI d2,.bool false]/\Bk wc (w3.heap.size) [.string u,vI o,.bool false]/\Bl w wc):=HCC
 clear HCC
 have l6_0:=F50.out.1.lt
 have a6_0_0:=F50.out.1.cell 0 _ rfl
 have f6_0_0:=F50.out.1.fz 0
 have a6_0_1:=F50.out.1.cell 1 _ rfl
 have f6_0_1:=F50.out.1.fz 1
 have a6_0_2:=F50.out.1.cell 2 _ rfl
 have f6_0_2:=F50.out.1.fz 2
 have l6_1:=F50.out.2.1.lt
 have a6_1_0:=F50.out.2.1.cell 0 _ rfl
 have f6_1_0:=F50.out.2.1.fz 0
 have a6_1_1:=F50.out.2.1.cell 1 _ rfl
 have f6_1_1:=F50.out.2.1.fz 1
 have a6_1_2:=F50.out.2.1.cell 2 _ rfl
 have f6_1_2:=F50.out.2.1.fz 2
 have ne6_0_1:¬ w1.heap.size=w3.heap.size:=by omega
 have ne6_1_0:¬ w3.heap.size=w1.heap.size:=by omega
 go_wp2_with fail
 all_goals first | (exfalso;omega) | skip
 refine (HN _).mono ?_
 rintro o51 w51 ⟨rfl,bb⟩
 have F51:Hid (Bk w51 (w1.heap.size) [.string d1,vI d2,.bool false]/\Bk w51 (w3.heap.size) [.string u,vI o,.bool false]/\Bl w w51):=⟨(F50.out.1).step bb,(F50.out.2.1).step bb,(F50.out.2.2).trans (bb.mono (F50.out.2.2).size)⟩
 clear F50
 clear bb
 clear l6_0 a6_0_0 f6_0_0 a6_0_1 f6_0_1 a6_0_2 f6_0_2 l6_1 a6_1_0 f6_1_0 a6_1_1 f6_1_1 a6_1_2 f6_1_2
 have l7_0:=F51.out.1.lt
 have a7_0_0:=F51.out.1.cell 0 _ rfl
 have f7_0_0:=F51.out.1.fz 0
 have a7_0_1:=F51.out.1.cell 1 _ rfl
 have f7_0_1:=F51.out.1.fz 1
 have a7_0_2:=F51.out.1.cell 2 _ rfl
 have f7_0_2:=F51.out.1.fz 2
 have l7_1:=F51.out.2.1.lt
 have a7_1_0:=F51.out.2.1.cell 0 _ rfl
 have f7_1_0:=F51.out.2.1.fz 0
 have a7_1_1:=F51.out.2.1.cell 1 _ rfl
 have f7_1_1:=F51.out.2.1.fz 1
 have a7_1_2:=F51.out.2.1.cell 2 _ rfl
 have f7_1_2:=F51.out.2.1.fz 2
 have ne7_0_1:¬ w1.heap.size=w3.heap.size:=by omega
 have ne7_1_0:¬ w3.heap.size=w1.heap.size:=by omega
 go_wp2_with fail
 all_goals first | (exfalso;omega) | skip
 refine (HM _).mono ?_
 rintro o52 w52 ⟨rfl,bb⟩
 have F52:Hid (Bk w52 (w1.heap.size) [.string d1,vI d2,.bool false]/\Bk w52 (w3.heap.size) [.string u,vI o,.bool false]/\Bl w w52):=⟨(F51.out.1).step bb,(F51.out.2.1).step bb,(F51.out.2.2).trans (bb.mono (F51.out.2.2).size)⟩
 clear F51
 clear bb
 clear l7_0 a7_0_0 f7_0_0 a7_0_1 f7_0_1 a7_0_2 f7_0_2 l7_1 a7_1_0 f7_1_0 a7_1_1 f7_1_1 a7_1_2 f7_1_2
 have l8_0:=F52.out.1.lt
 have a8_0_0:=F52.out.1.cell 0 _ rfl
 have f8_0_0:=F52.out.1.fz 0
 have a8_0_1:=F52.out.1.cell 1 _ rfl
 have f8_0_1:=F52.out.1.fz 1
 have a8_0_2:=F52.out.1.cell 2 _ rfl
 have f8_0_2:=F52.out.1.fz 2
 have l8_1:=F52.out.2.1.lt
 have a8_1_0:=F52.out.2.1.cell 0 _ rfl
 have f8_1_0:=F52.out.2.1.fz 0
 have a8_1_1:=F52.out.2.1.cell 1 _ rfl
 have f8_1_1:=F52.out.2.1.fz 1
 have a8_1_2:=F52.out.2.1.cell 2 _ rfl
 have f8_1_2:=F52.out.2.1.fz 2
 have ne8_0_1:¬ w1.heap.size=w3.heap.size:=by omega
 have ne8_1_0:¬ w3.heap.size=w1.heap.size:=by omega
 have m4:¬ 1<(d1.size:Int):=by omega
 go_wp2_with fail
 all_goals first | (exfalso;omega) | skip
 refine (HC _).mono ?_
 rintro o53 w53 ⟨rfl,bb⟩
 have F53:Hid (Bk w53 (w1.heap.size) [.string d1,vI d2,.bool false]/\Bk w53 (w3.heap.size) [.string u,vI o,.bool false]/\Bl w w53):=⟨(F52.out.1).step bb,(F52.out.2.1).step bb,(F52.out.2.2).trans (bb.mono (F52.out.2.2).size)⟩
 clear F52
 clear bb
 clear l8_0 a8_0_0 f8_0_0 a8_0_1 f8_0_1 a8_0_2 f8_0_2 l8_1 a8_1_0 f8_1_0 a8_1_1 f8_1_1 a8_1_2 f8_1_2
 have k0:(c == 0)=false:=beq_eq_false_iff_ne.mpr hc
 have l9_0:=F53.out.1.lt
 have a9_0_0:=F53.out.1.cell 0 _ rfl
 have f9_0_0:=F53.out.1.fz 0
 have a9_0_1:=F53.out.1.cell 1 _ rfl
 have f9_0_1:=F53.out.1.fz 1
 have a9_0_2:=F53.out.1.cell 2 _ rfl
 have f9_0_2:=F53.out.1.fz 2
 have l9_1:=F53.out.2.1.lt
 have a9_1_0:=F53.out.2.1.cell 0 _ rfl
 have f9_1_0:=F53.out.2.1.fz 0
 have a9_1_1:=F53.out.2.1.cell 1 _ rfl
 have f9_1_1:=F53.out.2.1.fz 1
 have a9_1_2:=F53.out.2.1.cell 2 _ rfl
 have f9_1_2:=F53.out.2.1.fz 2
 have ne9_0_1:¬ w1.heap.size=w3.heap.size:=by omega
 have ne9_1_0:¬ w3.heap.size=w1.heap.size:=by omega
 go_wp2_with fail
 all_goals first | (exfalso;omega) | skip
 refine (HX _).mono ?_
 rintro o54 w54 ⟨rfl,bb⟩
 have F54:Hid (Bk w54 (w1.heap.size) [.string d1,vI d2,.bool false]/\Bk w54 (w3.heap.size) [.string u,vI o,.bool false]/\Bl w w54):=⟨(F53.out.1).step bb,(F53.out.2.1).step bb,(F53.out.2.2).trans (bb.mono (F53.out.2.2).size)⟩
 clear F53
 clear bb
 clear l9_0 a9_0_0 f9_0_0 a9_0_1 f9_0_1 a9_0_2 f9_0_2 l9_1 a9_1_0 f9_1_0 a9_1_1 f9_1_1 a9_1_2 f9_1_2
 have lt0_2:=(F54.out.1).lt
 have lt1_2:=(F54.out.2.1).lt
 have le2:=(F54.out.2.2).size
 have F55:Hid (Bk (w54.alloc (.cells #[.string e1,vI e2,.bool false] 24)) (w1.heap.size) [.string d1,vI d2,.bool false]/\Bk (w54.alloc (.cells #[.string e1,vI e2,.bool false] 24)) (w3.heap.size) [.string u,vI o,.bool false]/\Bk (w54.alloc (.cells #[.string e1,vI e2,.bool false] 24)) (w54.heap.size) [.string e1,vI e2,.bool false]/\Bl w (w54.alloc (.cells #[.string e1,vI e2,.bool false] 24))):=⟨(F54.out.1).step (bz _ _),(F54.out.2.1).step (bz _ _),Bk.new3 w54 (.string e1) (vI e2) (.bool false) 24,(F54.out.2.2).alloc ((F54.out.2.2).size) _⟩
 clear F54
 go_upto_region 21 with fail
 generalize (w54.alloc (.cells #[.string e1,vI e2,.bool false] 24))=w55 at *
 have l10_0:=F55.out.1.lt
 have a10_0_0:=F55.out.1.cell 0 _ rfl
 have f10_0_0:=F55.out.1.fz 0
 have a10_0_1:=F55.out.1.cell 1 _ rfl
 have f10_0_1:=F55.out.1.fz 1
 have a10_0_2:=F55.out.1.cell 2 _ rfl
 have f10_0_2:=F55.out.1.fz 2
 have l10_1:=F55.out.2.1.lt
 have a10_1_0:=F55.out.2.1.cell 0 _ rfl
 have f10_1_0:=F55.out.2.1.fz 0
 have a10_1_1:=F55.out.2.1.cell 1 _ rfl
 have f10_1_1:=F55.out.2.1.fz 1
 have a10_1_2:=F55.out.2.1.cell 2 _ rfl
 have f10_1_2:=F55.out.2.1.fz 2
 have l10_2:=F55.out.2.2.1.lt
 have a10_2_0:=F55.out.2.2.1.cell 0 _ rfl
 have f10_2_0:=F55.out.2.2.1.fz 0
 have a10_2_1:=F55.out.2.2.1.cell 1 _ rfl
 have f10_2_1:=F55.out.2.2.1.fz 1
 have a10_2_2:=F55.out.2.2.1.cell 2 _ rfl
 have f10_2_2:=F55.out.2.2.1.fz 2
 have ne10_0_1:¬ w1.heap.size=w3.heap.size:=by omega
 have ne10_0_2:¬ w1.heap.size=w54.heap.size:=by omega
 have ne10_1_0:¬ w3.heap.size=w1.heap.size:=by omega
 have ne10_1_2:¬ w3.heap.size=w54.heap.size:=by omega
 have ne10_2_0:¬ w54.heap.size=w1.heap.size:=by omega
 have ne10_2_1:¬ w54.heap.size=w3.heap.size:=by omega
 go_wp2_with fail
 all_goals first | (exfalso;omega) | skip
 refine (HI _).mono ?_
 rintro o56 w56 ⟨rfl,bb⟩
 have F56:Hid (Bk w56 (w1.heap.size) [.string d1,vI d2,.bool false]/\Bk w56 (w3.heap.size) [.string u,vI o,.bool false]/\Bk w56 (w54.heap.size) [.string e1,vI e2,.bool false]/\Bl w w56):=⟨(F55.out.1).step bb,(F55.out.2.1).step bb,(F55.out.2.2.1).step bb,(F55.out.2.2.2).trans (bb.mono (F55.out.2.2.2).size)⟩
 clear F55
 clear bb
 clear l10_0 a10_0_0 f10_0_0 a10_0_1 f10_0_1 a10_0_2 f10_0_2 l10_1 a10_1_0 f10_1_0 a10_1_1 f10_1_1 a10_1_2 f10_1_2 l10_2 a10_2_0 f10_2_0 a10_2_1 f10_2_1 a10_2_2 f10_2_2
 have l11_0:=F56.out.1.lt
 have a11_0_0:=F56.out.1.cell 0 _ rfl
 have f11_0_0:=F56.out.1.fz 0
 have a11_0_1:=F56.out.1.cell 1 _ rfl
 have f11_0_1:=F56.out.1.fz 1
 have a11_0_2:=F56.out.1.cell 2 _ rfl
 have f11_0_2:=F56.out.1.fz 2
 have l11_1:=F56.out.2.1.lt
 have a11_1_0:=F56.out.2.1.cell 0 _ rfl
 have f11_1_0:=F56.out.2.1.fz 0
 have a11_1_1:=F56.out.2.1.cell 1 _ rfl
 have f11_1_1:=F56.out.2.1.fz 1
 have a11_1_2:=F56.out.2.1.cell 2 _ rfl
 have f11_1_2:=F56.out.2.1.fz 2
 have l11_2:=F56.out.2.2.1.lt
 have a11_2_0:=F56.out.2.2.1.cell 0 _ rfl
 have f11_2_0:=F56.out.2.2.1.fz 0
 have a11_2_1:=F56.out.2.2.1.cell 1 _ rfl
 have f11_2_1:=F56.out.2.2.1.fz 1
 have a11_2_2:=F56.out.2.2.1.cell 2 _ rfl
 have f11_2_2:=F56.out.2.2.1.fz 2
 have ne11_0_1:¬ w1.heap.size=w3.heap.size:=by omega
 have ne11_0_2:¬ w1.heap.size=w54.heap.size:=by omega
 have ne11_1_0:¬ w3.heap.size=w1.heap.size:=by omega
 have ne11_1_2:¬ w3.heap.size=w54.heap.size:=by omega
 have ne11_2_0:¬ w54.heap.size=w1.heap.size:=by omega
 have ne11_2_1:¬ w54.heap.size=w3.heap.size:=by omega
 go_wp2_with fail
 all_goals first | (exfalso;omega) | skip
 refine (HP _).mono ?_
 rintro o57 w57 ⟨rfl,bb⟩
 have F57:Hid (Bk w57 (w1.heap.size) [.string d1,vI d2,.bool false]/\Bk w57 (w3.heap.size) [.string u,vI o,.bool false]/\Bk w57 (w54.heap.size) [.string e1,vI e2,.bool false]/\Bl w w57):=⟨(F56.out.1).step bb,(F56.out.2.1).step bb,(F56.out.2.2.1).step bb,(F56.out.2.2.2).trans (bb.mono (F56.out.2.2.2).size)⟩
 clear F56
 clear bb
 clear l11_0 a11_0_0 f11_0_0 a11_0_1 f11_0_1 a11_0_2 f11_0_2 l11_1 a11_1_0 f11_1_0 a11_1_1 f11_1_1 a11_1_2 f11_1_2 l11_2 a11_2_0 f11_2_0 a11_2_1 f11_2_1 a11_2_2 f11_2_2
 have lt0_3:=(F57.out.1).lt
 have lt1_3:=(F57.out.2.1).lt
 have lt2_3:=(F57.out.2.2.1).lt
 have le3:=(F57.out.2.2.2).size
 have F58:Hid (Bk (w57.alloc (.cells #[.string g1,vI g2,.bool false] 24)) (w1.heap.size) [.string d1,vI d2,.bool false]/\Bk (w57.alloc (.cells #[.string g1,vI g2,.bool false] 24)) (w3.heap.size) [.string u,vI o,.bool false]/\Bk (w57.alloc (.cells #[.string g1,vI g2,.bool false] 24)) (w54.heap.size) [.string e1,vI e2,.bool false]/\Bk (w57.alloc (.cells #[.string g1,vI g2,.bool false] 24)) (w57.heap.size) [.string g1,vI g2,.bool false]/\Bl w (w57.alloc (.cells #[.string g1,vI g2,.bool false] 24))):=⟨(F57.out.1).step (bz _ _),(F57.out.2.1).step (bz _ _),(F57.out.2.2.1).step (bz _ _),Bk.new3 w57 (.string g1) (vI g2) (.bool false) 24,(F57.out.2.2.2).alloc ((F57.out.2.2.2).size) _⟩
 clear F57
 go_upto_region 25 with fail
 generalize (w57.alloc (.cells #[.string g1,vI g2,.bool false] 24))=w58 at *
 have l12_0:=F58.out.1.lt
 have a12_0_0:=F58.out.1.cell 0 _ rfl
 have f12_0_0:=F58.out.1.fz 0
 have a12_0_1:=F58.out.1.cell 1 _ rfl
 have f12_0_1:=F58.out.1.fz 1
 have a12_0_2:=F58.out.1.cell 2 _ rfl
 have f12_0_2:=F58.out.1.fz 2
 have l12_1:=F58.out.2.1.lt
 have a12_1_0:=F58.out.2.1.cell 0 _ rfl
 have f12_1_0:=F58.out.2.1.fz 0
 have a12_1_1:=F58.out.2.1.cell 1 _ rfl
 have f12_1_1:=F58.out.2.1.fz 1
 have a12_1_2:=F58.out.2.1.cell 2 _ rfl
 have f12_1_2:=F58.out.2.1.fz 2
 have l12_2:=F58.out.2.2.1.lt
 have a12_2_0:=F58.out.2.2.1.cell 0 _ rfl
 have f12_2_0:=F58.out.2.2.1.fz 0
 have a12_2_1:=F58.out.2.2.1.cell 1 _ rfl
 have f12_2_1:=F58.out.2.2.1.fz 1
 have a12_2_2:=F58.out.2.2.1.cell 2 _ rfl
 have f12_2_2:=F58.out.2.2.1.fz 2
 have l12_3:=F58.out.2.2.2.1.lt
 have a12_3_0:=F58.out.2.2.2.1.cell 0 _ rfl
 have f12_3_0:=F58.out.2.2.2.1.fz 0
 have a12_3_1:=F58.out.2.2.2.1.cell 1 _ rfl
 have f12_3_1:=F58.out.2.2.2.1.fz 1
 have a12_3_2:=F58.out.2.2.2.1.cell 2 _ rfl
 have f12_3_2:=F58.out.2.2.2.1.fz 2
 have ne12_0_1:¬ w1.heap.size=w3.heap.size:=by omega
 have ne12_0_2:¬ w1.heap.size=w54.heap.size:=by omega
 have ne12_0_3:¬ w1.heap.size=w57.heap.size:=by omega
 have ne12_1_0:¬ w3.heap.size=w1.heap.size:=by omega
 have ne12_1_2:¬ w3.heap.size=w54.heap.size:=by omega
 have ne12_1_3:¬ w3.heap.size=w57.heap.size:=by omega
 have ne12_2_0:¬ w54.heap.size=w1.heap.size:=by omega
 have ne12_2_1:¬ w54.heap.size=w3.heap.size:=by omega
 have ne12_2_3:¬ w54.heap.size=w57.heap.size:=by omega
 have ne12_3_0:¬ w57.heap.size=w1.heap.size:=by omega
 have ne12_3_1:¬ w57.heap.size=w3.heap.size:=by omega
 have ne12_3_2:¬ w57.heap.size=w54.heap.size:=by omega
 go_wp2_with fail
 all_goals first | (exfalso;omega) | skip
 refine (HT _).mono ?_
 rintro o59 w59 ⟨rfl,bb⟩
 have F59:Hid (Bk w59 (w1.heap.size) [.string d1,vI d2,.bool false]/\Bk w59 (w3.heap.size) [.string u,vI o,.bool false]/\Bk w59 (w54.heap.size) [.string e1,vI e2,.bool false]/\Bk w59 (w57.heap.size) [.string g1,vI g2,.bool false]/\Bl w w59):=⟨(F58.out.1).step bb,(F58.out.2.1).step bb,(F58.out.2.2.1).step bb,(F58.out.2.2.2.1).step bb,(F58.out.2.2.2.2).trans (bb.mono (F58.out.2.2.2.2).size)⟩
 clear F58
 clear bb
 clear l12_0 a12_0_0 f12_0_0 a12_0_1 f12_0_1 a12_0_2 f12_0_2 l12_1 a12_1_0 f12_1_0 a12_1_1 f12_1_1 a12_1_2 f12_1_2 l12_2 a12_2_0 f12_2_0 a12_2_1 f12_2_1 a12_2_2 f12_2_2 l12_3 a12_3_0 f12_3_0 a12_3_1 f12_3_1 a12_3_2 f12_3_2
 have lt0_4:=(F59.out.1).lt
 have lt1_4:=(F59.out.2.1).lt
 have lt2_4:=(F59.out.2.2.1).lt
 have lt3_4:=(F59.out.2.2.2.1).lt
 have le4:=(F59.out.2.2.2.2).size
 have F60:Hid (Bk (w59.alloc (.cells #[.string t1,vI t2,.bool false] 24)) (w1.heap.size) [.string d1,vI d2,.bool false]/\Bk (w59.alloc (.cells #[.string t1,vI t2,.bool false] 24)) (w3.heap.size) [.string u,vI o,.bool false]/\Bk (w59.alloc (.cells #[.string t1,vI t2,.bool false] 24)) (w54.heap.size) [.string e1,vI e2,.bool false]/\Bk (w59.alloc (.cells #[.string t1,vI t2,.bool false] 24)) (w57.heap.size) [.string g1,vI g2,.bool false]/\Bk (w59.alloc (.cells #[.string t1,vI t2,.bool false] 24)) (w59.heap.size) [.string t1,vI t2,.bool false]/\Bl w (w59.alloc (.cells #[.string t1,vI t2,.bool false] 24))):=⟨(F59.out.1).step (bz _ _),(F59.out.2.1).step (bz _ _),(F59.out.2.2.1).step (bz _ _),(F59.out.2.2.2.1).step (bz _ _),Bk.new3 w59 (.string t1) (vI t2) (.bool false) 24,(F59.out.2.2.2.2).alloc ((F59.out.2.2.2.2).size) _⟩
 clear F59
 go_upto_region 26 with fail
 generalize (w59.alloc (.cells #[.string t1,vI t2,.bool false] 24))=w60 at *
 have l13_0:=F60.out.1.lt
 have a13_0_0:=F60.out.1.cell 0 _ rfl
 have f13_0_0:=F60.out.1.fz 0
 have a13_0_1:=F60.out.1.cell 1 _ rfl
 have f13_0_1:=F60.out.1.fz 1
 have a13_0_2:=F60.out.1.cell 2 _ rfl
 have f13_0_2:=F60.out.1.fz 2
 have l13_1:=F60.out.2.1.lt
 have a13_1_0:=F60.out.2.1.cell 0 _ rfl
 have f13_1_0:=F60.out.2.1.fz 0
 have a13_1_1:=F60.out.2.1.cell 1 _ rfl
 have f13_1_1:=F60.out.2.1.fz 1
 have a13_1_2:=F60.out.2.1.cell 2 _ rfl
 have f13_1_2:=F60.out.2.1.fz 2
 have l13_2:=F60.out.2.2.1.lt
 have a13_2_0:=F60.out.2.2.1.cell 0 _ rfl
 have f13_2_0:=F60.out.2.2.1.fz 0
 have a13_2_1:=F60.out.2.2.1.cell 1 _ rfl
 have f13_2_1:=F60.out.2.2.1.fz 1
 have a13_2_2:=F60.out.2.2.1.cell 2 _ rfl
 have f13_2_2:=F60.out.2.2.1.fz 2
 have l13_3:=F60.out.2.2.2.1.lt
 have a13_3_0:=F60.out.2.2.2.1.cell 0 _ rfl
 have f13_3_0:=F60.out.2.2.2.1.fz 0
 have a13_3_1:=F60.out.2.2.2.1.cell 1 _ rfl
 have f13_3_1:=F60.out.2.2.2.1.fz 1
 have a13_3_2:=F60.out.2.2.2.1.cell 2 _ rfl
 have f13_3_2:=F60.out.2.2.2.1.fz 2
 have l13_4:=F60.out.2.2.2.2.1.lt
 have a13_4_0:=F60.out.2.2.2.2.1.cell 0 _ rfl
 have f13_4_0:=F60.out.2.2.2.2.1.fz 0
 have a13_4_1:=F60.out.2.2.2.2.1.cell 1 _ rfl
 have f13_4_1:=F60.out.2.2.2.2.1.fz 1
 have a13_4_2:=F60.out.2.2.2.2.1.cell 2 _ rfl
 have f13_4_2:=F60.out.2.2.2.2.1.fz 2
 have ne13_0_1:¬ w1.heap.size=w3.heap.size:=by omega
 have ne13_0_2:¬ w1.heap.size=w54.heap.size:=by omega
 have ne13_0_3:¬ w1.heap.size=w57.heap.size:=by omega
 have ne13_0_4:¬ w1.heap.size=w59.heap.size:=by omega
 have ne13_1_0:¬ w3.heap.size=w1.heap.size:=by omega
 have ne13_1_2:¬ w3.heap.size=w54.heap.size:=by omega
 have ne13_1_3:¬ w3.heap.size=w57.heap.size:=by omega
 have ne13_1_4:¬ w3.heap.size=w59.heap.size:=by omega
 have ne13_2_0:¬ w54.heap.size=w1.heap.size:=by omega
 have ne13_2_1:¬ w54.heap.size=w3.heap.size:=by omega
 have ne13_2_3:¬ w54.heap.size=w57.heap.size:=by omega
 have ne13_2_4:¬ w54.heap.size=w59.heap.size:=by omega
 have ne13_3_0:¬ w57.heap.size=w1.heap.size:=by omega
 have ne13_3_1:¬ w57.heap.size=w3.heap.size:=by omega
 have ne13_3_2:¬ w57.heap.size=w54.heap.size:=by omega
 have ne13_3_4:¬ w57.heap.size=w59.heap.size:=by omega
 have ne13_4_0:¬ w59.heap.size=w1.heap.size:=by omega
 have ne13_4_1:¬ w59.heap.size=w3.heap.size:=by omega
 have ne13_4_2:¬ w59.heap.size=w54.heap.size:=by omega
 have ne13_4_3:¬ w59.heap.size=w57.heap.size:=by omega
 go_wp2_with fail
 all_goals first | (exfalso;omega) | skip
 refine (HK _).mono ?_
 rintro o61 w61 ⟨rfl,bb⟩
 have F61:Hid (Bk w61 (w1.heap.size) [.string d1,vI d2,.bool false]/\Bk w61 (w3.heap.size) [.string u,vI o,.bool false]/\Bk w61 (w54.heap.size) [.string e1,vI e2,.bool false]/\Bk w61 (w57.heap.size) [.string g1,vI g2,.bool false]/\Bk w61 (w59.heap.size) [.string t1,vI t2,.bool false]/\Bl w w61):=⟨(F60.out.1).step bb,(F60.out.2.1).step bb,(F60.out.2.2.1).step bb,(F60.out.2.2.2.1).step bb,(F60.out.2.2.2.2.1).step bb,(F60.out.2.2.2.2.2).trans (bb.mono (F60.out.2.2.2.2.2).size)⟩
 clear F60
 clear bb
 clear l13_0 a13_0_0 f13_0_0 a13_0_1 f13_0_1 a13_0_2 f13_0_2 l13_1 a13_1_0 f13_1_0 a13_1_1 f13_1_1 a13_1_2 f13_1_2 l13_2 a13_2_0 f13_2_0 a13_2_1 f13_2_1 a13_2_2 f13_2_2 l13_3 a13_3_0 f13_3_0 a13_3_1 f13_3_1 a13_3_2 f13_3_2 l13_4 a13_4_0 f13_4_0 a13_4_1 f13_4_1 a13_4_2 f13_4_2
 have l14_0:=F61.out.1.lt
 have a14_0_0:=F61.out.1.cell 0 _ rfl
 have f14_0_0:=F61.out.1.fz 0
 have a14_0_1:=F61.out.1.cell 1 _ rfl
 have f14_0_1:=F61.out.1.fz 1
 have a14_0_2:=F61.out.1.cell 2 _ rfl
 have f14_0_2:=F61.out.1.fz 2
 have l14_1:=F61.out.2.1.lt
 have a14_1_0:=F61.out.2.1.cell 0 _ rfl
 have f14_1_0:=F61.out.2.1.fz 0
 have a14_1_1:=F61.out.2.1.cell 1 _ rfl
 have f14_1_1:=F61.out.2.1.fz 1
 have a14_1_2:=F61.out.2.1.cell 2 _ rfl
 have f14_1_2:=F61.out.2.1.fz 2
 have l14_2:=F61.out.2.2.1.lt
 have a14_2_0:=F61.out.2.2.1.cell 0 _ rfl
 have f14_2_0:=F61.out.2.2.1.fz 0
 have a14_2_1:=F61.out.2.2.1.cell 1 _ rfl
 have f14_2_1:=F61.out.2.2.1.fz 1
 have a14_2_2:=F61.out.2.2.1.cell 2 _ rfl
 have f14_2_2:=F61.out.2.2.1.fz 2
 have l14_3:=F61.out.2.2.2.1.lt
 have a14_3_0:=F61.out.2.2.2.1.cell 0 _ rfl
 have f14_3_0:=F61.out.2.2.2.1.fz 0
 have a14_3_1:=F61.out.2.2.2.1.cell 1 _ rfl
 have f14_3_1:=F61.out.2.2.2.1.fz 1
 have a14_3_2:=F61.out.2.2.2.1.cell 2 _ rfl
 have f14_3_2:=F61.out.2.2.2.1.fz 2
 have l14_4:=F61.out.2.2.2.2.1.lt
 have a14_4_0:=F61.out.2.2.2.2.1.cell 0 _ rfl
 have f14_4_0:=F61.out.2.2.2.2.1.fz 0
 have a14_4_1:=F61.out.2.2.2.2.1.cell 1 _ rfl
 have f14_4_1:=F61.out.2.2.2.2.1.fz 1
 have a14_4_2:=F61.out.2.2.2.2.1.cell 2 _ rfl
 have f14_4_2:=F61.out.2.2.2.2.1.fz 2
 have ne14_0_1:¬ w1.heap.size=w3.heap.size:=by omega
 have ne14_0_2:¬ w1.heap.size=w54.heap.size:=by omega
 have ne14_0_3:¬ w1.heap.size=w57.heap.size:=by omega
 have ne14_0_4:¬ w1.heap.size=w59.heap.size:=by omega
 have ne14_1_0:¬ w3.heap.size=w1.heap.size:=by omega
 have ne14_1_2:¬ w3.heap.size=w54.heap.size:=by omega
 have ne14_1_3:¬ w3.heap.size=w57.heap.size:=by omega
 have ne14_1_4:¬ w3.heap.size=w59.heap.size:=by omega
 have ne14_2_0:¬ w54.heap.size=w1.heap.size:=by omega
 have ne14_2_1:¬ w54.heap.size=w3.heap.size:=by omega
 have ne14_2_3:¬ w54.heap.size=w57.heap.size:=by omega
 have ne14_2_4:¬ w54.heap.size=w59.heap.size:=by omega
 have ne14_3_0:¬ w57.heap.size=w1.heap.size:=by omega
 have ne14_3_1:¬ w57.heap.size=w3.heap.size:=by omega
 have ne14_3_2:¬ w57.heap.size=w54.heap.size:=by omega
 have ne14_3_4:¬ w57.heap.size=w59.heap.size:=by omega
 have ne14_4_0:¬ w59.heap.size=w1.heap.size:=by omega
 have ne14_4_1:¬ w59.heap.size=w3.heap.size:=by omega
 have ne14_4_2:¬ w59.heap.size=w54.heap.size:=by omega
 have ne14_4_3:¬ w59.heap.size=w57.heap.size:=by omega
 go_wp2_with fail
 all_goals first | (exfalso;omega) | skip
 refine (WK _).mono ?_
 rintro o62 w62 ⟨rfl,bb⟩
 have F62:Hid (Bk w62 (w1.heap.size) [.string d1,vI d2,.bool false]/\Bk w62 (w3.heap.size) [.string u,vI o,.bool false]/\Bk w62 (w54.heap.size) [.string e1,vI e2,.bool false]/\Bk w62 (w57.heap.size) [.string g1,vI g2,.bool false]/\Bk w62 (w59.heap.size) [.string t1,vI t2,.bool false]/\Bl w w62):=⟨(F61.out.1).step bb,(F61.out.2.1).step bb,(F61.out.2.2.1).step bb,(F61.out.2.2.2.1).step bb,(F61.out.2.2.2.2.1).step bb,(F61.out.2.2.2.2.2).trans (bb.mono (F61.out.2.2.2.2.2).size)⟩
 clear F61
 clear bb
 go_wp2
 go_ret
 exact ⟨rfl,F62.out.2.2.2.2.2⟩
theorem yC {b z x o d2:Int}{u d1:ByteArray}(u0:0<u.size) (n0:1<=d1.size) (n17:d1.size<=17) (hz:(z=32/\d1.size<=9) \/ ((z == 32)=false/\¬ z=32)) (nb:1<d1.size) {e1:ByteArray}{c e2:Int}{up:Bool}(hc:c ≠ 0) (hup:decide (c<0)=up) {g1 t1:ByteArray}{g2 t2 k m:Int}(hc0:c<0) (hk:k<0) (HD:∀ W,Cb 8 #[vU b,vI z] W (.tuple #[.agg #[.string d1,vI d2,.bool false],.nilIface])) (HE:∀ W,Cb 18 #[vU b,vI z] W (.tuple #[.agg #[.string u,vI o,.bool false],vI 0])) (HV:∀ W,Cb 19 #[.agg #[.string d1,vI d2,.bool false]] W (vI 0)) (HN:∀ W,Cb 20 #[.agg #[.string d1,vI d2,.bool false],vI z] W (.tuple #[vU x,vI 0])) (HM:∀ W,Cb 21 #[vU b,vI z] W (vU x)) (HB:∀ W,Cb 22 #[vU b,vI z,vI ((d1.size:Int) - 1)] W (.tuple #[.bool false,vI 0])) (WK:∀ W,Cb 13 #[] W (.bool true)) (HC:∀ W,Cb 23 #[.agg #[.string d1,vI d2,.bool false],.agg #[.string u,vI o,.bool false]] W (.tuple #[vI c,vI 0])) (HX:∀ W,Cb 24 #[.agg #[.string d1,vI d2,.bool false],vI (d1.size:Int),.bool up] W (.agg #[.string e1,vI e2,.bool false])) (HI:∀ W,Cb 25 #[.agg #[.string e1,vI e2,.bool false],vU b,vI z] W (.tuple #[.bool true,vI 0])) (HP:∀ W,Cb 26 #[.agg #[.string d1,vI d2,.bool false],.agg #[.string e1,vI e2,.bool false]] W (.agg #[.string g1,vI g2,.bool false])) (HT:∀ W,Cb 27 #[.agg #[.string u,vI o,.bool false]] W (.tuple #[.agg #[.string t1,vI t2,.bool false],vI m])) (HK:∀ W,Cb 23 #[.agg #[.string t1,vI t2,.bool false],.agg #[.string g1,vI g2,.bool false]] W (.tuple #[vI k,vI 0]))  (w:World) :
 Cb 6 #[vU b,vI z] w (.bool true):=by
 have he:u.toList.isEmpty=false:=aB u0
 have wn:IntKind.i64.wrap ((d1.size:Int) - 1)=(d1.size:Int) - 1:=by
  unfold IntKind.wrap
  simp [IntKind.bits,IntKind.signed]
  omega
 have m1:¬ (d1.size:Int)<1:=by omega
 have m2:¬ 17<(d1.size:Int):=by omega
 have F0:Hid (Bl w w):=Below.refl _ _
 go_enter Tryz.func6,Tryz.ntmps6
 go_wp2_with fail
 all_goals first | (exfalso;omega) | skip
 refine (HD _).mono ?_
 rintro o1 w1 ⟨rfl,bb⟩
 have F1:Hid (Bl w w1):=(F0.out).trans (bb.mono (F0.out).size)
 clear F0
 clear bb
 have le0:=(F1.out).size
 have F2:Hid (Bk (w1.alloc (.cells #[.string d1,vI d2,.bool false] 24)) (w1.heap.size) [.string d1,vI d2,.bool false]/\Bl w (w1.alloc (.cells #[.string d1,vI d2,.bool false] 24))):=⟨Bk.new3 w1 (.string d1) (vI d2) (.bool false) 24,(F1.out).alloc ((F1.out).size) _⟩
 clear F1
 go_upto_region 2 with fail
 generalize (w1.alloc (.cells #[.string d1,vI d2,.bool false] 24))=w2 at *
 go_wp2_with fail
 all_goals first | (exfalso;omega) | skip
 refine (HE _).mono ?_
 rintro o3 w3 ⟨rfl,bb⟩
 have F3:Hid (Bk w3 (w1.heap.size) [.string d1,vI d2,.bool false]/\Bl w w3):=⟨(F2.out.1).step bb,(F2.out.2).trans (bb.mono (F2.out.2).size)⟩
 clear F2
 clear bb
 have lt0_1:=(F3.out.1).lt
 have le1:=(F3.out.2).size
 have F4:Hid (Bk (w3.alloc (.cells #[.string u,vI o,.bool false] 24)) (w1.heap.size) [.string d1,vI d2,.bool false]/\Bk (w3.alloc (.cells #[.string u,vI o,.bool false] 24)) (w3.heap.size) [.string u,vI o,.bool false]/\Bl w (w3.alloc (.cells #[.string u,vI o,.bool false] 24))):=⟨(F3.out.1).step (bz _ _),Bk.new3 w3 (.string u) (vI o) (.bool false) 24,(F3.out.2).alloc ((F3.out.2).size) _⟩
 clear F3
 go_upto_region 3 with fail
 generalize (w3.alloc (.cells #[.string u,vI o,.bool false] 24))=w4 at *
 have l1_0:=F4.out.1.lt
 have a1_0_0:=F4.out.1.cell 0 _ rfl
 have f1_0_0:=F4.out.1.fz 0
 have a1_0_1:=F4.out.1.cell 1 _ rfl
 have f1_0_1:=F4.out.1.fz 1
 have a1_0_2:=F4.out.1.cell 2 _ rfl
 have f1_0_2:=F4.out.1.fz 2
 have l1_1:=F4.out.2.1.lt
 have a1_1_0:=F4.out.2.1.cell 0 _ rfl
 have f1_1_0:=F4.out.2.1.fz 0
 have a1_1_1:=F4.out.2.1.cell 1 _ rfl
 have f1_1_1:=F4.out.2.1.fz 1
 have a1_1_2:=F4.out.2.1.cell 2 _ rfl
 have f1_1_2:=F4.out.2.1.fz 2
 have ne1_0_1:¬ w1.heap.size=w3.heap.size:=by omega
 have ne1_1_0:¬ w3.heap.size=w1.heap.size:=by omega
 go_upto_region 8 with fail
 go_cut [90] from 64 to 89 (fun v90 wx=>v90=.bool false/\Hid (Bk wx (w1.heap.size) [.string d1,vI d2,.bool false]/\Bk wx (w3.heap.size) [.string u,vI o,.bool false]/\Bl w wx))
 case first =>
  go_wp2_with fail
  refine (HV _).mono ?_
  rintro p1 v1 ⟨rfl,bb⟩
  have G1:Hid (Bk v1 (w1.heap.size) [.string d1,vI d2,.bool false]/\Bk v1 (w3.heap.size) [.string u,vI o,.bool false]/\Bl w v1):=⟨(F4.out.1).step bb,(F4.out.2.1).step bb,(F4.out.2.2).trans (bb.mono (F4.out.2.2).size)⟩
  clear bb
  clear l1_0 a1_0_0 f1_0_0 a1_0_1 f1_0_1 a1_0_2 f1_0_2 l1_1 a1_1_0 f1_1_0 a1_1_1 f1_1_1 a1_1_2 f1_1_2
  have d1_0_0:=(G1.out.1).cell 0 _ rfl
  have d1_0_1:=(G1.out.1).cell 1 _ rfl
  have d1_0_2:=(G1.out.1).cell 2 _ rfl
  have d1_1_0:=(G1.out.2.1).cell 0 _ rfl
  have d1_1_1:=(G1.out.2.1).cell 1 _ rfl
  have d1_1_2:=(G1.out.2.1).cell 2 _ rfl
  rcases hz with ⟨rfl,hz⟩ | ⟨hz,hz2⟩
  . have m3:¬ 9<(d1.size:Int):=by omega
    go_wp2
    all_goals go_meet
    all_goals exact ⟨by first | (simp;done) | (simp;omega),G1.out⟩
  . go_wp2
    all_goals go_meet
    all_goals exact ⟨by first | (simp;done) | (simp;omega),G1.out⟩
 case rest =>
 obtain ⟨rfl,HCC⟩:=hcut
 clear F4
 clear l1_0 a1_0_0 f1_0_0 a1_0_1 f1_0_1 a1_0_2 f1_0_2 l1_1 a1_1_0 f1_1_0 a1_1_1 f1_1_1 a1_1_2 f1_1_2
 have F50:Hid (Bk wc (w1.heap.size) [.string d1,vI d2,.bool false]/\Bk wc (w3.heap.size) [.string u,vI o,.bool false]/\Bl w wc):=HCC
 clear HCC
 have l6_0:=F50.out.1.lt
 have a6_0_0:=F50.out.1.cell 0 _ rfl
 have f6_0_0:=F50.out.1.fz 0
 have a6_0_1:=F50.out.1.cell 1 _ rfl
 have f6_0_1:=F50.out.1.fz 1
 have a6_0_2:=F50.out.1.cell 2 _ rfl
 have f6_0_2:=F50.out.1.fz 2
 have l6_1:=F50.out.2.1.lt
 have a6_1_0:=F50.out.2.1.cell 0 _ rfl
 have f6_1_0:=F50.out.2.1.fz 0
 have a6_1_1:=F50.out.2.1.cell 1 _ rfl
 have f6_1_1:=F50.out.2.1.fz 1
 have a6_1_2:=F50.out.2.1.cell 2 _ rfl
 have f6_1_2:=F50.out.2.1.fz 2
 have ne6_0_1:¬ w1.heap.size=w3.heap.size:=by omega
 have ne6_1_0:¬ w3.heap.size=w1.heap.size:=by omega
 go_wp2_with fail
 all_goals first | (exfalso;omega) | skip
 refine (HN _).mono ?_
 rintro o51 w51 ⟨rfl,bb⟩
 have F51:Hid (Bk w51 (w1.heap.size) [.string d1,vI d2,.bool false]/\Bk w51 (w3.heap.size) [.string u,vI o,.bool false]/\Bl w w51):=⟨(F50.out.1).step bb,(F50.out.2.1).step bb,(F50.out.2.2).trans (bb.mono (F50.out.2.2).size)⟩
 clear F50
 clear bb
 clear l6_0 a6_0_0 f6_0_0 a6_0_1 f6_0_1 a6_0_2 f6_0_2 l6_1 a6_1_0 f6_1_0 a6_1_1 f6_1_1 a6_1_2 f6_1_2
 have l7_0:=F51.out.1.lt
 have a7_0_0:=F51.out.1.cell 0 _ rfl
 have f7_0_0:=F51.out.1.fz 0
 have a7_0_1:=F51.out.1.cell 1 _ rfl
 have f7_0_1:=F51.out.1.fz 1
 have a7_0_2:=F51.out.1.cell 2 _ rfl
 have f7_0_2:=F51.out.1.fz 2
 have l7_1:=F51.out.2.1.lt
 have a7_1_0:=F51.out.2.1.cell 0 _ rfl
 have f7_1_0:=F51.out.2.1.fz 0
 have a7_1_1:=F51.out.2.1.cell 1 _ rfl
 have f7_1_1:=F51.out.2.1.fz 1
 have a7_1_2:=F51.out.2.1.cell 2 _ rfl
 have f7_1_2:=F51.out.2.1.fz 2
 have ne7_0_1:¬ w1.heap.size=w3.heap.size:=by omega
 have ne7_1_0:¬ w3.heap.size=w1.heap.size:=by omega
 go_wp2_with fail
 all_goals first | (exfalso;omega) | skip
 refine (HM _).mono ?_
 rintro o52 w52 ⟨rfl,bb⟩
 have F52:Hid (Bk w52 (w1.heap.size) [.string d1,vI d2,.bool false]/\Bk w52 (w3.heap.size) [.string u,vI o,.bool false]/\Bl w w52):=⟨(F51.out.1).step bb,(F51.out.2.1).step bb,(F51.out.2.2).trans (bb.mono (F51.out.2.2).size)⟩
 clear F51
 clear bb
 clear l7_0 a7_0_0 f7_0_0 a7_0_1 f7_0_1 a7_0_2 f7_0_2 l7_1 a7_1_0 f7_1_0 a7_1_1 f7_1_1 a7_1_2 f7_1_2
 have l8_0:=F52.out.1.lt
 have a8_0_0:=F52.out.1.cell 0 _ rfl
 have f8_0_0:=F52.out.1.fz 0
 have a8_0_1:=F52.out.1.cell 1 _ rfl
 have f8_0_1:=F52.out.1.fz 1
 have a8_0_2:=F52.out.1.cell 2 _ rfl
 have f8_0_2:=F52.out.1.fz 2
 have l8_1:=F52.out.2.1.lt
 have a8_1_0:=F52.out.2.1.cell 0 _ rfl
 have f8_1_0:=F52.out.2.1.fz 0
 have a8_1_1:=F52.out.2.1.cell 1 _ rfl
 have f8_1_1:=F52.out.2.1.fz 1
 have a8_1_2:=F52.out.2.1.cell 2 _ rfl
 have f8_1_2:=F52.out.2.1.fz 2
 have ne8_0_1:¬ w1.heap.size=w3.heap.size:=by omega
 have ne8_1_0:¬ w3.heap.size=w1.heap.size:=by omega
 have m4:1<(d1.size:Int):=by omega
 go_wp2_with fail
 all_goals first | (exfalso;omega) | skip
 refine (HB _).mono ?_
 rintro o53 w53 ⟨rfl,bb⟩
 have F53:Hid (Bk w53 (w1.heap.size) [.string d1,vI d2,.bool false]/\Bk w53 (w3.heap.size) [.string u,vI o,.bool false]/\Bl w w53):=⟨(F52.out.1).step bb,(F52.out.2.1).step bb,(F52.out.2.2).trans (bb.mono (F52.out.2.2).size)⟩
 clear F52
 clear bb
 clear l8_0 a8_0_0 f8_0_0 a8_0_1 f8_0_1 a8_0_2 f8_0_2 l8_1 a8_1_0 f8_1_0 a8_1_1 f8_1_1 a8_1_2 f8_1_2
 have l9_0:=F53.out.1.lt
 have a9_0_0:=F53.out.1.cell 0 _ rfl
 have f9_0_0:=F53.out.1.fz 0
 have a9_0_1:=F53.out.1.cell 1 _ rfl
 have f9_0_1:=F53.out.1.fz 1
 have a9_0_2:=F53.out.1.cell 2 _ rfl
 have f9_0_2:=F53.out.1.fz 2
 have l9_1:=F53.out.2.1.lt
 have a9_1_0:=F53.out.2.1.cell 0 _ rfl
 have f9_1_0:=F53.out.2.1.fz 0
 have a9_1_1:=F53.out.2.1.cell 1 _ rfl
 have f9_1_1:=F53.out.2.1.fz 1
 have a9_1_2:=F53.out.2.1.cell 2 _ rfl
 have f9_1_2:=F53.out.2.1.fz 2
 have ne9_0_1:¬ w1.heap.size=w3.heap.size:=by omega
 have ne9_1_0:¬ w3.heap.size=w1.heap.size:=by omega
 go_wp2_with fail
 all_goals first | (exfalso;omega) | skip
 refine (HC _).mono ?_
 rintro o54 w54 ⟨rfl,bb⟩
 have F54:Hid (Bk w54 (w1.heap.size) [.string d1,vI d2,.bool false]/\Bk w54 (w3.heap.size) [.string u,vI o,.bool false]/\Bl w w54):=⟨(F53.out.1).step bb,(F53.out.2.1).step bb,(F53.out.2.2).trans (bb.mono (F53.out.2.2).size)⟩
 clear F53
 clear bb
 clear l9_0 a9_0_0 f9_0_0 a9_0_1 f9_0_1 a9_0_2 f9_0_2 l9_1 a9_1_0 f9_1_0 a9_1_1 f9_1_1 a9_1_2 f9_1_2
 have k0:(c == 0)=false:=beq_eq_false_iff_ne.mpr hc
 have k1:c<0:=hc0
 obtain rfl:up=true:=by rw [<- hup];exact decide_eq_true hc0
 have l10_0:=F54.out.1.lt
 have a10_0_0:=F54.out.1.cell 0 _ rfl
 have f10_0_0:=F54.out.1.fz 0
 have a10_0_1:=F54.out.1.cell 1 _ rfl
 have f10_0_1:=F54.out.1.fz 1
 have a10_0_2:=F54.out.1.cell 2 _ rfl
 have f10_0_2:=F54.out.1.fz 2
 have l10_1:=F54.out.2.1.lt
 have a10_1_0:=F54.out.2.1.cell 0 _ rfl
 have f10_1_0:=F54.out.2.1.fz 0
 have a10_1_1:=F54.out.2.1.cell 1 _ rfl
 have f10_1_1:=F54.out.2.1.fz 1
 have a10_1_2:=F54.out.2.1.cell 2 _ rfl
 have f10_1_2:=F54.out.2.1.fz 2
 have ne10_0_1:¬ w1.heap.size=w3.heap.size:=by omega
 have ne10_1_0:¬ w3.heap.size=w1.heap.size:=by omega
 go_wp2_with fail
 all_goals first | (exfalso;omega) | skip
 refine (HX _).mono ?_
 rintro o55 w55 ⟨rfl,bb⟩
 have F55:Hid (Bk w55 (w1.heap.size) [.string d1,vI d2,.bool false]/\Bk w55 (w3.heap.size) [.string u,vI o,.bool false]/\Bl w w55):=⟨(F54.out.1).step bb,(F54.out.2.1).step bb,(F54.out.2.2).trans (bb.mono (F54.out.2.2).size)⟩
 clear F54
 clear bb
 clear l10_0 a10_0_0 f10_0_0 a10_0_1 f10_0_1 a10_0_2 f10_0_2 l10_1 a10_1_0 f10_1_0 a10_1_1 f10_1_1 a10_1_2 f10_1_2
 have lt0_2:=(F55.out.1).lt
 have lt1_2:=(F55.out.2.1).lt
 have le2:=(F55.out.2.2).size
 have F56:Hid (Bk (w55.alloc (.cells #[.string e1,vI e2,.bool false] 24)) (w1.heap.size) [.string d1,vI d2,.bool false]/\Bk (w55.alloc (.cells #[.string e1,vI e2,.bool false] 24)) (w3.heap.size) [.string u,vI o,.bool false]/\Bk (w55.alloc (.cells #[.string e1,vI e2,.bool false] 24)) (w55.heap.size) [.string e1,vI e2,.bool false]/\Bl w (w55.alloc (.cells #[.string e1,vI e2,.bool false] 24))):=⟨(F55.out.1).step (bz _ _),(F55.out.2.1).step (bz _ _),Bk.new3 w55 (.string e1) (vI e2) (.bool false) 24,(F55.out.2.2).alloc ((F55.out.2.2).size) _⟩
 clear F55
 go_upto_region 21 with fail
 generalize (w55.alloc (.cells #[.string e1,vI e2,.bool false] 24))=w56 at *
 have l11_0:=F56.out.1.lt
 have a11_0_0:=F56.out.1.cell 0 _ rfl
 have f11_0_0:=F56.out.1.fz 0
 have a11_0_1:=F56.out.1.cell 1 _ rfl
 have f11_0_1:=F56.out.1.fz 1
 have a11_0_2:=F56.out.1.cell 2 _ rfl
 have f11_0_2:=F56.out.1.fz 2
 have l11_1:=F56.out.2.1.lt
 have a11_1_0:=F56.out.2.1.cell 0 _ rfl
 have f11_1_0:=F56.out.2.1.fz 0
 have a11_1_1:=F56.out.2.1.cell 1 _ rfl
 have f11_1_1:=F56.out.2.1.fz 1
 have a11_1_2:=F56.out.2.1.cell 2 _ rfl
 have f11_1_2:=F56.out.2.1.fz 2
 have l11_2:=F56.out.2.2.1.lt
 have a11_2_0:=F56.out.2.2.1.cell 0 _ rfl
 have f11_2_0:=F56.out.2.2.1.fz 0
 have a11_2_1:=F56.out.2.2.1.cell 1 _ rfl
 have f11_2_1:=F56.out.2.2.1.fz 1
 have a11_2_2:=F56.out.2.2.1.cell 2 _ rfl
 have f11_2_2:=F56.out.2.2.1.fz 2
 have ne11_0_1:¬ w1.heap.size=w3.heap.size:=by omega
 have ne11_0_2:¬ w1.heap.size=w55.heap.size:=by omega
 have ne11_1_0:¬ w3.heap.size=w1.heap.size:=by omega
 have ne11_1_2:¬ w3.heap.size=w55.heap.size:=by omega
 have ne11_2_0:¬ w55.heap.size=w1.heap.size:=by omega
 have ne11_2_1:¬ w55.heap.size=w3.heap.size:=by omega
 go_wp2_with fail
 all_goals first | (exfalso;omega) | skip
 refine (HI _).mono ?_
 rintro o57 w57 ⟨rfl,bb⟩
 have F57:Hid (Bk w57 (w1.heap.size) [.string d1,vI d2,.bool false]/\Bk w57 (w3.heap.size) [.string u,vI o,.bool false]/\Bk w57 (w55.heap.size) [.string e1,vI e2,.bool false]/\Bl w w57):=⟨(F56.out.1).step bb,(F56.out.2.1).step bb,(F56.out.2.2.1).step bb,(F56.out.2.2.2).trans (bb.mono (F56.out.2.2.2).size)⟩
 clear F56
 clear bb
 clear l11_0 a11_0_0 f11_0_0 a11_0_1 f11_0_1 a11_0_2 f11_0_2 l11_1 a11_1_0 f11_1_0 a11_1_1 f11_1_1 a11_1_2 f11_1_2 l11_2 a11_2_0 f11_2_0 a11_2_1 f11_2_1 a11_2_2 f11_2_2
 have l12_0:=F57.out.1.lt
 have a12_0_0:=F57.out.1.cell 0 _ rfl
 have f12_0_0:=F57.out.1.fz 0
 have a12_0_1:=F57.out.1.cell 1 _ rfl
 have f12_0_1:=F57.out.1.fz 1
 have a12_0_2:=F57.out.1.cell 2 _ rfl
 have f12_0_2:=F57.out.1.fz 2
 have l12_1:=F57.out.2.1.lt
 have a12_1_0:=F57.out.2.1.cell 0 _ rfl
 have f12_1_0:=F57.out.2.1.fz 0
 have a12_1_1:=F57.out.2.1.cell 1 _ rfl
 have f12_1_1:=F57.out.2.1.fz 1
 have a12_1_2:=F57.out.2.1.cell 2 _ rfl
 have f12_1_2:=F57.out.2.1.fz 2
 have l12_2:=F57.out.2.2.1.lt
 have a12_2_0:=F57.out.2.2.1.cell 0 _ rfl
 have f12_2_0:=F57.out.2.2.1.fz 0
 have a12_2_1:=F57.out.2.2.1.cell 1 _ rfl
 have f12_2_1:=F57.out.2.2.1.fz 1
 have a12_2_2:=F57.out.2.2.1.cell 2 _ rfl
 have f12_2_2:=F57.out.2.2.1.fz 2
 have ne12_0_1:¬ w1.heap.size=w3.heap.size:=by omega
 have ne12_0_2:¬ w1.heap.size=w55.heap.size:=by omega
 have ne12_1_0:¬ w3.heap.size=w1.heap.size:=by omega
 have ne12_1_2:¬ w3.heap.size=w55.heap.size:=by omega
 have ne12_2_0:¬ w55.heap.size=w1.heap.size:=by omega
 have ne12_2_1:¬ w55.heap.size=w3.heap.size:=by omega
 go_wp2_with fail
 all_goals first | (exfalso;omega) | skip
 refine (HP _).mono ?_
 rintro o58 w58 ⟨rfl,bb⟩
 have F58:Hid (Bk w58 (w1.heap.size) [.string d1,vI d2,.bool false]/\Bk w58 (w3.heap.size) [.string u,vI o,.bool false]/\Bk w58 (w55.heap.size) [.string e1,vI e2,.bool false]/\Bl w w58):=⟨(F57.out.1).step bb,(F57.out.2.1).step bb,(F57.out.2.2.1).step bb,(F57.out.2.2.2).trans (bb.mono (F57.out.2.2.2).size)⟩
 clear F57
 clear bb
 clear l12_0 a12_0_0 f12_0_0 a12_0_1 f12_0_1 a12_0_2 f12_0_2 l12_1 a12_1_0 f12_1_0 a12_1_1 f12_1_1 a12_1_2 f12_1_2 l12_2 a12_2_0 f12_2_0 a12_2_1 f12_2_1 a12_2_2 f12_2_2
 have lt0_3:=(F58.out.1).lt
 have lt1_3:=(F58.out.2.1).lt
 have lt2_3:=(F58.out.2.2.1).lt
 have le3:=(F58.out.2.2.2).size
 have F59:Hid (Bk (w58.alloc (.cells #[.string g1,vI g2,.bool false] 24)) (w1.heap.size) [.string d1,vI d2,.bool false]/\Bk (w58.alloc (.cells #[.string g1,vI g2,.bool false] 24)) (w3.heap.size) [.string u,vI o,.bool false]/\Bk (w58.alloc (.cells #[.string g1,vI g2,.bool false] 24)) (w55.heap.size) [.string e1,vI e2,.bool false]/\Bk (w58.alloc (.cells #[.string g1,vI g2,.bool false] 24)) (w58.heap.size) [.string g1,vI g2,.bool false]/\Bl w (w58.alloc (.cells #[.string g1,vI g2,.bool false] 24))):=⟨(F58.out.1).step (bz _ _),(F58.out.2.1).step (bz _ _),(F58.out.2.2.1).step (bz _ _),Bk.new3 w58 (.string g1) (vI g2) (.bool false) 24,(F58.out.2.2.2).alloc ((F58.out.2.2.2).size) _⟩
 clear F58
 go_upto_region 25 with fail
 generalize (w58.alloc (.cells #[.string g1,vI g2,.bool false] 24))=w59 at *
 have l13_0:=F59.out.1.lt
 have a13_0_0:=F59.out.1.cell 0 _ rfl
 have f13_0_0:=F59.out.1.fz 0
 have a13_0_1:=F59.out.1.cell 1 _ rfl
 have f13_0_1:=F59.out.1.fz 1
 have a13_0_2:=F59.out.1.cell 2 _ rfl
 have f13_0_2:=F59.out.1.fz 2
 have l13_1:=F59.out.2.1.lt
 have a13_1_0:=F59.out.2.1.cell 0 _ rfl
 have f13_1_0:=F59.out.2.1.fz 0
 have a13_1_1:=F59.out.2.1.cell 1 _ rfl
 have f13_1_1:=F59.out.2.1.fz 1
 have a13_1_2:=F59.out.2.1.cell 2 _ rfl
 have f13_1_2:=F59.out.2.1.fz 2
 have l13_2:=F59.out.2.2.1.lt
 have a13_2_0:=F59.out.2.2.1.cell 0 _ rfl
 have f13_2_0:=F59.out.2.2.1.fz 0
 have a13_2_1:=F59.out.2.2.1.cell 1 _ rfl
 have f13_2_1:=F59.out.2.2.1.fz 1
 have a13_2_2:=F59.out.2.2.1.cell 2 _ rfl
 have f13_2_2:=F59.out.2.2.1.fz 2
 have l13_3:=F59.out.2.2.2.1.lt
 have a13_3_0:=F59.out.2.2.2.1.cell 0 _ rfl
 have f13_3_0:=F59.out.2.2.2.1.fz 0
 have a13_3_1:=F59.out.2.2.2.1.cell 1 _ rfl
 have f13_3_1:=F59.out.2.2.2.1.fz 1
 have a13_3_2:=F59.out.2.2.2.1.cell 2 _ rfl
 have f13_3_2:=F59.out.2.2.2.1.fz 2
 have ne13_0_1:¬ w1.heap.size=w3.heap.size:=by omega
 have ne13_0_2:¬ w1.heap.size=w55.heap.size:=by omega
 have ne13_0_3:¬ w1.heap.size=w58.heap.size:=by omega
 have ne13_1_0:¬ w3.heap.size=w1.heap.size:=by omega
 have ne13_1_2:¬ w3.heap.size=w55.heap.size:=by omega
 have ne13_1_3:¬ w3.heap.size=w58.heap.size:=by omega
 have ne13_2_0:¬ w55.heap.size=w1.heap.size:=by omega
 have ne13_2_1:¬ w55.heap.size=w3.heap.size:=by omega
 have ne13_2_3:¬ w55.heap.size=w58.heap.size:=by omega
 have ne13_3_0:¬ w58.heap.size=w1.heap.size:=by omega
 have ne13_3_1:¬ w58.heap.size=w3.heap.size:=by omega
 have ne13_3_2:¬ w58.heap.size=w55.heap.size:=by omega
 go_wp2_with fail
 all_goals first | (exfalso;omega) | skip
 refine (HT _).mono ?_
 rintro o60 w60 ⟨rfl,bb⟩
 have F60:Hid (Bk w60 (w1.heap.size) [.string d1,vI d2,.bool false]/\Bk w60 (w3.heap.size) [.string u,vI o,.bool false]/\Bk w60 (w55.heap.size) [.string e1,vI e2,.bool false]/\Bk w60 (w58.heap.size) [.string g1,vI g2,.bool false]/\Bl w w60):=⟨(F59.out.1).step bb,(F59.out.2.1).step bb,(F59.out.2.2.1).step bb,(F59.out.2.2.2.1).step bb,(F59.out.2.2.2.2).trans (bb.mono (F59.out.2.2.2.2).size)⟩
 clear F59
 clear bb
 clear l13_0 a13_0_0 f13_0_0 a13_0_1 f13_0_1 a13_0_2 f13_0_2 l13_1 a13_1_0 f13_1_0 a13_1_1 f13_1_1 a13_1_2 f13_1_2 l13_2 a13_2_0 f13_2_0 a13_2_1 f13_2_1 a13_2_2 f13_2_2 l13_3 a13_3_0 f13_3_0 a13_3_1 f13_3_1 a13_3_2 f13_3_2
 have lt0_4:=(F60.out.1).lt
 have lt1_4:=(F60.out.2.1).lt
 have lt2_4:=(F60.out.2.2.1).lt
 have lt3_4:=(F60.out.2.2.2.1).lt
 have le4:=(F60.out.2.2.2.2).size
 have F61:Hid (Bk (w60.alloc (.cells #[.string t1,vI t2,.bool false] 24)) (w1.heap.size) [.string d1,vI d2,.bool false]/\Bk (w60.alloc (.cells #[.string t1,vI t2,.bool false] 24)) (w3.heap.size) [.string u,vI o,.bool false]/\Bk (w60.alloc (.cells #[.string t1,vI t2,.bool false] 24)) (w55.heap.size) [.string e1,vI e2,.bool false]/\Bk (w60.alloc (.cells #[.string t1,vI t2,.bool false] 24)) (w58.heap.size) [.string g1,vI g2,.bool false]/\Bk (w60.alloc (.cells #[.string t1,vI t2,.bool false] 24)) (w60.heap.size) [.string t1,vI t2,.bool false]/\Bl w (w60.alloc (.cells #[.string t1,vI t2,.bool false] 24))):=⟨(F60.out.1).step (bz _ _),(F60.out.2.1).step (bz _ _),(F60.out.2.2.1).step (bz _ _),(F60.out.2.2.2.1).step (bz _ _),Bk.new3 w60 (.string t1) (vI t2) (.bool false) 24,(F60.out.2.2.2.2).alloc ((F60.out.2.2.2.2).size) _⟩
 clear F60
 go_upto_region 26 with fail
 generalize (w60.alloc (.cells #[.string t1,vI t2,.bool false] 24))=w61 at *
 have l14_0:=F61.out.1.lt
 have a14_0_0:=F61.out.1.cell 0 _ rfl
 have f14_0_0:=F61.out.1.fz 0
 have a14_0_1:=F61.out.1.cell 1 _ rfl
 have f14_0_1:=F61.out.1.fz 1
 have a14_0_2:=F61.out.1.cell 2 _ rfl
 have f14_0_2:=F61.out.1.fz 2
 have l14_1:=F61.out.2.1.lt
 have a14_1_0:=F61.out.2.1.cell 0 _ rfl
 have f14_1_0:=F61.out.2.1.fz 0
 have a14_1_1:=F61.out.2.1.cell 1 _ rfl
 have f14_1_1:=F61.out.2.1.fz 1
 have a14_1_2:=F61.out.2.1.cell 2 _ rfl
 have f14_1_2:=F61.out.2.1.fz 2
 have l14_2:=F61.out.2.2.1.lt
 have a14_2_0:=F61.out.2.2.1.cell 0 _ rfl
 have f14_2_0:=F61.out.2.2.1.fz 0
 have a14_2_1:=F61.out.2.2.1.cell 1 _ rfl
 have f14_2_1:=F61.out.2.2.1.fz 1
 have a14_2_2:=F61.out.2.2.1.cell 2 _ rfl
 have f14_2_2:=F61.out.2.2.1.fz 2
 have l14_3:=F61.out.2.2.2.1.lt
 have a14_3_0:=F61.out.2.2.2.1.cell 0 _ rfl
 have f14_3_0:=F61.out.2.2.2.1.fz 0
 have a14_3_1:=F61.out.2.2.2.1.cell 1 _ rfl
 have f14_3_1:=F61.out.2.2.2.1.fz 1
 have a14_3_2:=F61.out.2.2.2.1.cell 2 _ rfl
 have f14_3_2:=F61.out.2.2.2.1.fz 2
 have l14_4:=F61.out.2.2.2.2.1.lt
 have a14_4_0:=F61.out.2.2.2.2.1.cell 0 _ rfl
 have f14_4_0:=F61.out.2.2.2.2.1.fz 0
 have a14_4_1:=F61.out.2.2.2.2.1.cell 1 _ rfl
 have f14_4_1:=F61.out.2.2.2.2.1.fz 1
 have a14_4_2:=F61.out.2.2.2.2.1.cell 2 _ rfl
 have f14_4_2:=F61.out.2.2.2.2.1.fz 2
 have ne14_0_1:¬ w1.heap.size=w3.heap.size:=by omega
 have ne14_0_2:¬ w1.heap.size=w55.heap.size:=by omega
 have ne14_0_3:¬ w1.heap.size=w58.heap.size:=by omega
 have ne14_0_4:¬ w1.heap.size=w60.heap.size:=by omega
 have ne14_1_0:¬ w3.heap.size=w1.heap.size:=by omega
 have ne14_1_2:¬ w3.heap.size=w55.heap.size:=by omega
 have ne14_1_3:¬ w3.heap.size=w58.heap.size:=by omega
 have ne14_1_4:¬ w3.heap.size=w60.heap.size:=by omega
 have ne14_2_0:¬ w55.heap.size=w1.heap.size:=by omega
 have ne14_2_1:¬ w55.heap.size=w3.heap.size:=by omega
 have ne14_2_3:¬ w55.heap.size=w58.heap.size:=by omega
 have ne14_2_4:¬ w55.heap.size=w60.heap.size:=by omega
 have ne14_3_0:¬ w58.heap.size=w1.heap.size:=by omega
 have ne14_3_1:¬ w58.heap.size=w3.heap.size:=by omega
 have ne14_3_2:¬ w58.heap.size=w55.heap.size:=by omega
 have ne14_3_4:¬ w58.heap.size=w60.heap.size:=by omega
 have ne14_4_0:¬ w60.heap.size=w1.heap.size:=by omega
 have ne14_4_1:¬ w60.heap.size=w3.heap.size:=by omega
 have ne14_4_2:¬ w60.heap.size=w55.heap.size:=by omega
 have ne14_4_3:¬ w60.heap.size=w58.heap.size:=by omega
 go_wp2_with fail
 all_goals first | (exfalso;omega) | skip
 refine (HK _).mono ?_
 rintro o62 w62 ⟨rfl,bb⟩
 have F62:Hid (Bk w62 (w1.heap.size) [.string d1,vI d2,.bool false]/\Bk w62 (w3.heap.size) [.string u,vI o,.bool false]/\Bk w62 (w55.heap.size) [.string e1,vI e2,.bool false]/\Bk w62 (w58.heap.size) [.string g1,vI g2,.bool false]/\Bk w62 (w60.heap.size) [.string t1,vI t2,.bool false]/\Bl w w62):=⟨(F61.out.1).step bb,(F61.out.2.1).step bb,(F61.out.2.2.1).step bb,(F61.out.2.2.2.1).step bb,(F61.out.2.2.2.2.1).step bb,(F61.out.2.2.2.2.2).trans (bb.mono (F61.out.2.2.2.2.2).size)⟩
 clear F61
 clear bb
 clear l14_0 a14_0_0 f14_0_0 a14_0_1 f14_0_1 a14_0_2 f14_0_2 l14_1 a14_1_0 f14_1_0 a14_1_1 f14_1_1 a14_1_2 f14_1_2 l14_2 a14_2_0 f14_2_0 a14_2_1 f14_2_1 a14_2_2 f14_2_2 l14_3 a14_3_0 f14_3_0 a14_3_1 f14_3_1 a14_3_2 f14_3_2 l14_4 a14_4_0 f14_4_0 a14_4_1 f14_4_1 a14_4_2 f14_4_2
 have l15_0:=F62.out.1.lt
 have a15_0_0:=F62.out.1.cell 0 _ rfl
 have f15_0_0:=F62.out.1.fz 0
 have a15_0_1:=F62.out.1.cell 1 _ rfl
 have f15_0_1:=F62.out.1.fz 1
 have a15_0_2:=F62.out.1.cell 2 _ rfl
 have f15_0_2:=F62.out.1.fz 2
 have l15_1:=F62.out.2.1.lt
 have a15_1_0:=F62.out.2.1.cell 0 _ rfl
 have f15_1_0:=F62.out.2.1.fz 0
 have a15_1_1:=F62.out.2.1.cell 1 _ rfl
 have f15_1_1:=F62.out.2.1.fz 1
 have a15_1_2:=F62.out.2.1.cell 2 _ rfl
 have f15_1_2:=F62.out.2.1.fz 2
 have l15_2:=F62.out.2.2.1.lt
 have a15_2_0:=F62.out.2.2.1.cell 0 _ rfl
 have f15_2_0:=F62.out.2.2.1.fz 0
 have a15_2_1:=F62.out.2.2.1.cell 1 _ rfl
 have f15_2_1:=F62.out.2.2.1.fz 1
 have a15_2_2:=F62.out.2.2.1.cell 2 _ rfl
 have f15_2_2:=F62.out.2.2.1.fz 2
 have l15_3:=F62.out.2.2.2.1.lt
 have a15_3_0:=F62.out.2.2.2.1.cell 0 _ rfl
 have f15_3_0:=F62.out.2.2.2.1.fz 0
 have a15_3_1:=F62.out.2.2.2.1.cell 1 _ rfl
 have f15_3_1:=F62.out.2.2.2.1.fz 1
 have a15_3_2:=F62.out.2.2.2.1.cell 2 _ rfl
 have f15_3_2:=F62.out.2.2.2.1.fz 2
 have l15_4:=F62.out.2.2.2.2.1.lt
 have a15_4_0:=F62.out.2.2.2.2.1.cell 0 _ rfl
 have f15_4_0:=F62.out.2.2.2.2.1.fz 0
 have a15_4_1:=F62.out.2.2.2.2.1.cell 1 _ rfl
 have f15_4_1:=F62.out.2.2.2.2.1.fz 1
 have a15_4_2:=F62.out.2.2.2.2.1.cell 2 _ rfl
 have f15_4_2:=F62.out.2.2.2.2.1.fz 2
 have ne15_0_1:¬ w1.heap.size=w3.heap.size:=by omega
 have ne15_0_2:¬ w1.heap.size=w55.heap.size:=by omega
 have ne15_0_3:¬ w1.heap.size=w58.heap.size:=by omega
 have ne15_0_4:¬ w1.heap.size=w60.heap.size:=by omega
 have ne15_1_0:¬ w3.heap.size=w1.heap.size:=by omega
 have ne15_1_2:¬ w3.heap.size=w55.heap.size:=by omega
 have ne15_1_3:¬ w3.heap.size=w58.heap.size:=by omega
 have ne15_1_4:¬ w3.heap.size=w60.heap.size:=by omega
 have ne15_2_0:¬ w55.heap.size=w1.heap.size:=by omega
 have ne15_2_1:¬ w55.heap.size=w3.heap.size:=by omega
 have ne15_2_3:¬ w55.heap.size=w58.heap.size:=by omega
 have ne15_2_4:¬ w55.heap.size=w60.heap.size:=by omega
 have ne15_3_0:¬ w58.heap.size=w1.heap.size:=by omega
 have ne15_3_1:¬ w58.heap.size=w3.heap.size:=by omega
 have ne15_3_2:¬ w58.heap.size=w55.heap.size:=by omega
 have ne15_3_4:¬ w58.heap.size=w60.heap.size:=by omega
 have ne15_4_0:¬ w60.heap.size=w1.heap.size:=by omega
 have ne15_4_1:¬ w60.heap.size=w3.heap.size:=by omega
 have ne15_4_2:¬ w60.heap.size=w55.heap.size:=by omega
 have ne15_4_3:¬ w60.heap.size=w58.heap.size:=by omega
 have k2:(k == 0)=false:=beq_eq_false_iff_ne.mpr (by omega)
 go_wp2_with fail
 all_goals first | (exfalso;omega) | skip
 refine (WK _).mono ?_
 rintro o63 w63 ⟨rfl,bb⟩
 have F63:Hid (Bk w63 (w1.heap.size) [.string d1,vI d2,.bool false]/\Bk w63 (w3.heap.size) [.string u,vI o,.bool false]/\Bk w63 (w55.heap.size) [.string e1,vI e2,.bool false]/\Bk w63 (w58.heap.size) [.string g1,vI g2,.bool false]/\Bk w63 (w60.heap.size) [.string t1,vI t2,.bool false]/\Bl w w63):=⟨(F62.out.1).step bb,(F62.out.2.1).step bb,(F62.out.2.2.1).step bb,(F62.out.2.2.2.1).step bb,(F62.out.2.2.2.2.1).step bb,(F62.out.2.2.2.2.2).trans (bb.mono (F62.out.2.2.2.2.2).size)⟩
 clear F62
 clear bb
 go_wp2
 go_ret
 exact ⟨rfl,F63.out.2.2.2.2.2⟩
theorem yB {b z x o d2:Int}{u d1:ByteArray}(u0:0<u.size) (n0:1<=d1.size) (n17:d1.size<=17) (hz:(z=32/\d1.size<=9) \/ ((z == 32)=false/\¬ z=32)) (nb:¬ 1<d1.size) {e1:ByteArray}{c e2:Int}{up:Bool}(hc:c ≠ 0) (hup:decide (c<0)=up) {g1 t1:ByteArray}{g2 t2 k m:Int}(hc0:c<0) (hk:k<0) (HD:∀ W,Cb 8 #[vU b,vI z] W (.tuple #[.agg #[.string d1,vI d2,.bool false],.nilIface])) (HE:∀ W,Cb 18 #[vU b,vI z] W (.tuple #[.agg #[.string u,vI o,.bool false],vI 0])) (HV:∀ W,Cb 19 #[.agg #[.string d1,vI d2,.bool false]] W (vI 0)) (HN:∀ W,Cb 20 #[.agg #[.string d1,vI d2,.bool false],vI z] W (.tuple #[vU x,vI 0])) (HM:∀ W,Cb 21 #[vU b,vI z] W (vU x)) (WK:∀ W,Cb 13 #[] W (.bool true)) (HC:∀ W,Cb 23 #[.agg #[.string d1,vI d2,.bool false],.agg #[.string u,vI o,.bool false]] W (.tuple #[vI c,vI 0])) (HX:∀ W,Cb 24 #[.agg #[.string d1,vI d2,.bool false],vI (d1.size:Int),.bool up] W (.agg #[.string e1,vI e2,.bool false])) (HI:∀ W,Cb 25 #[.agg #[.string e1,vI e2,.bool false],vU b,vI z] W (.tuple #[.bool true,vI 0])) (HP:∀ W,Cb 26 #[.agg #[.string d1,vI d2,.bool false],.agg #[.string e1,vI e2,.bool false]] W (.agg #[.string g1,vI g2,.bool false])) (HT:∀ W,Cb 27 #[.agg #[.string u,vI o,.bool false]] W (.tuple #[.agg #[.string t1,vI t2,.bool false],vI m])) (HK:∀ W,Cb 23 #[.agg #[.string t1,vI t2,.bool false],.agg #[.string g1,vI g2,.bool false]] W (.tuple #[vI k,vI 0]))  (w:World) :
 Cb 6 #[vU b,vI z] w (.bool true):=by
 have he:u.toList.isEmpty=false:=aB u0
 have wn:IntKind.i64.wrap ((d1.size:Int) - 1)=(d1.size:Int) - 1:=by
  unfold IntKind.wrap
  simp [IntKind.bits,IntKind.signed]
  omega
 have m1:¬ (d1.size:Int)<1:=by omega
 have m2:¬ 17<(d1.size:Int):=by omega
 have F0:Hid (Bl w w):=Below.refl _ _
 go_enter Tryz.func6,Tryz.ntmps6
 go_wp2_with fail
 all_goals first | (exfalso;omega) | skip
 refine (HD _).mono ?_
 rintro o1 w1 ⟨rfl,bb⟩
 have F1:Hid (Bl w w1):=(F0.out).trans (bb.mono (F0.out).size)
 clear F0
 clear bb
 have le0:=(F1.out).size
 have F2:Hid (Bk (w1.alloc (.cells #[.string d1,vI d2,.bool false] 24)) (w1.heap.size) [.string d1,vI d2,.bool false]/\Bl w (w1.alloc (.cells #[.string d1,vI d2,.bool false] 24))):=⟨Bk.new3 w1 (.string d1) (vI d2) (.bool false) 24,(F1.out).alloc ((F1.out).size) _⟩
 clear F1
 go_upto_region 2 with fail
 generalize (w1.alloc (.cells #[.string d1,vI d2,.bool false] 24))=w2 at *
 go_wp2_with fail
 all_goals first | (exfalso;omega) | skip
 refine (HE _).mono ?_
 rintro o3 w3 ⟨rfl,bb⟩
 have F3:Hid (Bk w3 (w1.heap.size) [.string d1,vI d2,.bool false]/\Bl w w3):=⟨(F2.out.1).step bb,(F2.out.2).trans (bb.mono (F2.out.2).size)⟩
 clear F2
 clear bb
 have lt0_1:=(F3.out.1).lt
 have le1:=(F3.out.2).size
 have F4:Hid (Bk (w3.alloc (.cells #[.string u,vI o,.bool false] 24)) (w1.heap.size) [.string d1,vI d2,.bool false]/\Bk (w3.alloc (.cells #[.string u,vI o,.bool false] 24)) (w3.heap.size) [.string u,vI o,.bool false]/\Bl w (w3.alloc (.cells #[.string u,vI o,.bool false] 24))):=⟨(F3.out.1).step (bz _ _),Bk.new3 w3 (.string u) (vI o) (.bool false) 24,(F3.out.2).alloc ((F3.out.2).size) _⟩
 clear F3
 go_upto_region 3 with fail
 generalize (w3.alloc (.cells #[.string u,vI o,.bool false] 24))=w4 at *
 have l1_0:=F4.out.1.lt
 have a1_0_0:=F4.out.1.cell 0 _ rfl
 have f1_0_0:=F4.out.1.fz 0
 have a1_0_1:=F4.out.1.cell 1 _ rfl
 have f1_0_1:=F4.out.1.fz 1
 have a1_0_2:=F4.out.1.cell 2 _ rfl
 have f1_0_2:=F4.out.1.fz 2
 have l1_1:=F4.out.2.1.lt
 have a1_1_0:=F4.out.2.1.cell 0 _ rfl
 have f1_1_0:=F4.out.2.1.fz 0
 have a1_1_1:=F4.out.2.1.cell 1 _ rfl
 have f1_1_1:=F4.out.2.1.fz 1
 have a1_1_2:=F4.out.2.1.cell 2 _ rfl
 have f1_1_2:=F4.out.2.1.fz 2
 have ne1_0_1:¬ w1.heap.size=w3.heap.size:=by omega
 have ne1_1_0:¬ w3.heap.size=w1.heap.size:=by omega
 go_upto_region 8 with fail
 go_cut [90] from 64 to 89 (fun v90 wx=>v90=.bool false/\Hid (Bk wx (w1.heap.size) [.string d1,vI d2,.bool false]/\Bk wx (w3.heap.size) [.string u,vI o,.bool false]/\Bl w wx))
 case first =>
  go_wp2_with fail
  refine (HV _).mono ?_
  rintro p1 v1 ⟨rfl,bb⟩
  have G1:Hid (Bk v1 (w1.heap.size) [.string d1,vI d2,.bool false]/\Bk v1 (w3.heap.size) [.string u,vI o,.bool false]/\Bl w v1):=⟨(F4.out.1).step bb,(F4.out.2.1).step bb,(F4.out.2.2).trans (bb.mono (F4.out.2.2).size)⟩
  clear bb
  clear l1_0 a1_0_0 f1_0_0 a1_0_1 f1_0_1 a1_0_2 f1_0_2 l1_1 a1_1_0 f1_1_0 a1_1_1 f1_1_1 a1_1_2 f1_1_2
  have d1_0_0:=(G1.out.1).cell 0 _ rfl
  have d1_0_1:=(G1.out.1).cell 1 _ rfl
  have d1_0_2:=(G1.out.1).cell 2 _ rfl
  have d1_1_0:=(G1.out.2.1).cell 0 _ rfl
  have d1_1_1:=(G1.out.2.1).cell 1 _ rfl
  have d1_1_2:=(G1.out.2.1).cell 2 _ rfl
  rcases hz with ⟨rfl,hz⟩ | ⟨hz,hz2⟩
  . have m3:¬ 9<(d1.size:Int):=by omega
    go_wp2
    all_goals go_meet
    all_goals exact ⟨by first | (simp;done) | (simp;omega),G1.out⟩
  . go_wp2
    all_goals go_meet
    all_goals exact ⟨by first | (simp;done) | (simp;omega),G1.out⟩
 case rest =>
 obtain ⟨rfl,HCC⟩:=hcut
 clear F4
 clear l1_0 a1_0_0 f1_0_0 a1_0_1 f1_0_1 a1_0_2 f1_0_2 l1_1 a1_1_0 f1_1_0 a1_1_1 f1_1_1 a1_1_2 f1_1_2
 have F50:Hid (Bk wc (w1.heap.size) [.string d1,vI d2,.bool false]/\Bk wc (w3.heap.size) [.string u,vI o,.bool false]/\Bl w wc):=HCC
 clear HCC
 have l6_0:=F50.out.1.lt
 have a6_0_0:=F50.out.1.cell 0 _ rfl
 have f6_0_0:=F50.out.1.fz 0
 have a6_0_1:=F50.out.1.cell 1 _ rfl
 have f6_0_1:=F50.out.1.fz 1
 have a6_0_2:=F50.out.1.cell 2 _ rfl
 have f6_0_2:=F50.out.1.fz 2
 have l6_1:=F50.out.2.1.lt
 have a6_1_0:=F50.out.2.1.cell 0 _ rfl
 have f6_1_0:=F50.out.2.1.fz 0
 have a6_1_1:=F50.out.2.1.cell 1 _ rfl
 have f6_1_1:=F50.out.2.1.fz 1
 have a6_1_2:=F50.out.2.1.cell 2 _ rfl
 have f6_1_2:=F50.out.2.1.fz 2
 have ne6_0_1:¬ w1.heap.size=w3.heap.size:=by omega
 have ne6_1_0:¬ w3.heap.size=w1.heap.size:=by omega
 go_wp2_with fail
 all_goals first | (exfalso;omega) | skip
 refine (HN _).mono ?_
 rintro o51 w51 ⟨rfl,bb⟩
 have F51:Hid (Bk w51 (w1.heap.size) [.string d1,vI d2,.bool false]/\Bk w51 (w3.heap.size) [.string u,vI o,.bool false]/\Bl w w51):=⟨(F50.out.1).step bb,(F50.out.2.1).step bb,(F50.out.2.2).trans (bb.mono (F50.out.2.2).size)⟩
 clear F50
 clear bb
 clear l6_0 a6_0_0 f6_0_0 a6_0_1 f6_0_1 a6_0_2 f6_0_2 l6_1 a6_1_0 f6_1_0 a6_1_1 f6_1_1 a6_1_2 f6_1_2
 have l7_0:=F51.out.1.lt
 have a7_0_0:=F51.out.1.cell 0 _ rfl
 have f7_0_0:=F51.out.1.fz 0
 have a7_0_1:=F51.out.1.cell 1 _ rfl
 have f7_0_1:=F51.out.1.fz 1
 have a7_0_2:=F51.out.1.cell 2 _ rfl
 have f7_0_2:=F51.out.1.fz 2
 have l7_1:=F51.out.2.1.lt
 have a7_1_0:=F51.out.2.1.cell 0 _ rfl
 have f7_1_0:=F51.out.2.1.fz 0
 have a7_1_1:=F51.out.2.1.cell 1 _ rfl
 have f7_1_1:=F51.out.2.1.fz 1
 have a7_1_2:=F51.out.2.1.cell 2 _ rfl
 have f7_1_2:=F51.out.2.1.fz 2
 have ne7_0_1:¬ w1.heap.size=w3.heap.size:=by omega
 have ne7_1_0:¬ w3.heap.size=w1.heap.size:=by omega
 go_wp2_with fail
 all_goals first | (exfalso;omega) | skip
 refine (HM _).mono ?_
 rintro o52 w52 ⟨rfl,bb⟩
 have F52:Hid (Bk w52 (w1.heap.size) [.string d1,vI d2,.bool false]/\Bk w52 (w3.heap.size) [.string u,vI o,.bool false]/\Bl w w52):=⟨(F51.out.1).step bb,(F51.out.2.1).step bb,(F51.out.2.2).trans (bb.mono (F51.out.2.2).size)⟩
 clear F51
 clear bb
 clear l7_0 a7_0_0 f7_0_0 a7_0_1 f7_0_1 a7_0_2 f7_0_2 l7_1 a7_1_0 f7_1_0 a7_1_1 f7_1_1 a7_1_2 f7_1_2
 have l8_0:=F52.out.1.lt
 have a8_0_0:=F52.out.1.cell 0 _ rfl
 have f8_0_0:=F52.out.1.fz 0
 have a8_0_1:=F52.out.1.cell 1 _ rfl
 have f8_0_1:=F52.out.1.fz 1
 have a8_0_2:=F52.out.1.cell 2 _ rfl
 have f8_0_2:=F52.out.1.fz 2
 have l8_1:=F52.out.2.1.lt
 have a8_1_0:=F52.out.2.1.cell 0 _ rfl
 have f8_1_0:=F52.out.2.1.fz 0
 have a8_1_1:=F52.out.2.1.cell 1 _ rfl
 have f8_1_1:=F52.out.2.1.fz 1
 have a8_1_2:=F52.out.2.1.cell 2 _ rfl
 have f8_1_2:=F52.out.2.1.fz 2
 have ne8_0_1:¬ w1.heap.size=w3.heap.size:=by omega
 have ne8_1_0:¬ w3.heap.size=w1.heap.size:=by omega
 have m4:¬ 1<(d1.size:Int):=by omega
 go_wp2_with fail
 all_goals first | (exfalso;omega) | skip
 refine (HC _).mono ?_
 rintro o53 w53 ⟨rfl,bb⟩
 have F53:Hid (Bk w53 (w1.heap.size) [.string d1,vI d2,.bool false]/\Bk w53 (w3.heap.size) [.string u,vI o,.bool false]/\Bl w w53):=⟨(F52.out.1).step bb,(F52.out.2.1).step bb,(F52.out.2.2).trans (bb.mono (F52.out.2.2).size)⟩
 clear F52
 clear bb
 clear l8_0 a8_0_0 f8_0_0 a8_0_1 f8_0_1 a8_0_2 f8_0_2 l8_1 a8_1_0 f8_1_0 a8_1_1 f8_1_1 a8_1_2 f8_1_2
 have k0:(c == 0)=false:=beq_eq_false_iff_ne.mpr hc
 have k1:c<0:=hc0
 obtain rfl:up=true:=by rw [<- hup];exact decide_eq_true hc0
 have l9_0:=F53.out.1.lt
 have a9_0_0:=F53.out.1.cell 0 _ rfl
 have f9_0_0:=F53.out.1.fz 0
 have a9_0_1:=F53.out.1.cell 1 _ rfl
 have f9_0_1:=F53.out.1.fz 1
 have a9_0_2:=F53.out.1.cell 2 _ rfl
 have f9_0_2:=F53.out.1.fz 2
 have l9_1:=F53.out.2.1.lt
 have a9_1_0:=F53.out.2.1.cell 0 _ rfl
 have f9_1_0:=F53.out.2.1.fz 0
 have a9_1_1:=F53.out.2.1.cell 1 _ rfl
 have f9_1_1:=F53.out.2.1.fz 1
 have a9_1_2:=F53.out.2.1.cell 2 _ rfl
 have f9_1_2:=F53.out.2.1.fz 2
 have ne9_0_1:¬ w1.heap.size=w3.heap.size:=by omega
 have ne9_1_0:¬ w3.heap.size=w1.heap.size:=by omega
 go_wp2_with fail
 all_goals first | (exfalso;omega) | skip
 refine (HX _).mono ?_
 rintro o54 w54 ⟨rfl,bb⟩
 have F54:Hid (Bk w54 (w1.heap.size) [.string d1,vI d2,.bool false]/\Bk w54 (w3.heap.size) [.string u,vI o,.bool false]/\Bl w w54):=⟨(F53.out.1).step bb,(F53.out.2.1).step bb,(F53.out.2.2).trans (bb.mono (F53.out.2.2).size)⟩
 clear F53
 clear bb
 clear l9_0 a9_0_0 f9_0_0 a9_0_1 f9_0_1 a9_0_2 f9_0_2 l9_1 a9_1_0 f9_1_0 a9_1_1 f9_1_1 a9_1_2 f9_1_2
 have lt0_2:=(F54.out.1).lt
 have lt1_2:=(F54.out.2.1).lt
 have le2:=(F54.out.2.2).size
 have F55:Hid (Bk (w54.alloc (.cells #[.string e1,vI e2,.bool false] 24)) (w1.heap.size) [.string d1,vI d2,.bool false]/\Bk (w54.alloc (.cells #[.string e1,vI e2,.bool false] 24)) (w3.heap.size) [.string u,vI o,.bool false]/\Bk (w54.alloc (.cells #[.string e1,vI e2,.bool false] 24)) (w54.heap.size) [.string e1,vI e2,.bool false]/\Bl w (w54.alloc (.cells #[.string e1,vI e2,.bool false] 24))):=⟨(F54.out.1).step (bz _ _),(F54.out.2.1).step (bz _ _),Bk.new3 w54 (.string e1) (vI e2) (.bool false) 24,(F54.out.2.2).alloc ((F54.out.2.2).size) _⟩
 clear F54
 go_upto_region 21 with fail
 generalize (w54.alloc (.cells #[.string e1,vI e2,.bool false] 24))=w55 at *
 have l10_0:=F55.out.1.lt
 have a10_0_0:=F55.out.1.cell 0 _ rfl
 have f10_0_0:=F55.out.1.fz 0
 have a10_0_1:=F55.out.1.cell 1 _ rfl
 have f10_0_1:=F55.out.1.fz 1
 have a10_0_2:=F55.out.1.cell 2 _ rfl
 have f10_0_2:=F55.out.1.fz 2
 have l10_1:=F55.out.2.1.lt
 have a10_1_0:=F55.out.2.1.cell 0 _ rfl
 have f10_1_0:=F55.out.2.1.fz 0
 have a10_1_1:=F55.out.2.1.cell 1 _ rfl
 have f10_1_1:=F55.out.2.1.fz 1
 have a10_1_2:=F55.out.2.1.cell 2 _ rfl
 have f10_1_2:=F55.out.2.1.fz 2
 have l10_2:=F55.out.2.2.1.lt
 have a10_2_0:=F55.out.2.2.1.cell 0 _ rfl
 have f10_2_0:=F55.out.2.2.1.fz 0
 have a10_2_1:=F55.out.2.2.1.cell 1 _ rfl
 have f10_2_1:=F55.out.2.2.1.fz 1
 have a10_2_2:=F55.out.2.2.1.cell 2 _ rfl
 have f10_2_2:=F55.out.2.2.1.fz 2
 have ne10_0_1:¬ w1.heap.size=w3.heap.size:=by omega
 have ne10_0_2:¬ w1.heap.size=w54.heap.size:=by omega
 have ne10_1_0:¬ w3.heap.size=w1.heap.size:=by omega
 have ne10_1_2:¬ w3.heap.size=w54.heap.size:=by omega
 have ne10_2_0:¬ w54.heap.size=w1.heap.size:=by omega
 have ne10_2_1:¬ w54.heap.size=w3.heap.size:=by omega
 go_wp2_with fail
 all_goals first | (exfalso;omega) | skip
 refine (HI _).mono ?_
 rintro o56 w56 ⟨rfl,bb⟩
 have F56:Hid (Bk w56 (w1.heap.size) [.string d1,vI d2,.bool false]/\Bk w56 (w3.heap.size) [.string u,vI o,.bool false]/\Bk w56 (w54.heap.size) [.string e1,vI e2,.bool false]/\Bl w w56):=⟨(F55.out.1).step bb,(F55.out.2.1).step bb,(F55.out.2.2.1).step bb,(F55.out.2.2.2).trans (bb.mono (F55.out.2.2.2).size)⟩
 clear F55
 clear bb
 clear l10_0 a10_0_0 f10_0_0 a10_0_1 f10_0_1 a10_0_2 f10_0_2 l10_1 a10_1_0 f10_1_0 a10_1_1 f10_1_1 a10_1_2 f10_1_2 l10_2 a10_2_0 f10_2_0 a10_2_1 f10_2_1 a10_2_2 f10_2_2
 have l11_0:=F56.out.1.lt
 have a11_0_0:=F56.out.1.cell 0 _ rfl
 have f11_0_0:=F56.out.1.fz 0
 have a11_0_1:=F56.out.1.cell 1 _ rfl
 have f11_0_1:=F56.out.1.fz 1
 have a11_0_2:=F56.out.1.cell 2 _ rfl
 have f11_0_2:=F56.out.1.fz 2
 have l11_1:=F56.out.2.1.lt
 have a11_1_0:=F56.out.2.1.cell 0 _ rfl
 have f11_1_0:=F56.out.2.1.fz 0
 have a11_1_1:=F56.out.2.1.cell 1 _ rfl
 have f11_1_1:=F56.out.2.1.fz 1
 have a11_1_2:=F56.out.2.1.cell 2 _ rfl
 have f11_1_2:=F56.out.2.1.fz 2
 have l11_2:=F56.out.2.2.1.lt
 have a11_2_0:=F56.out.2.2.1.cell 0 _ rfl
 have f11_2_0:=F56.out.2.2.1.fz 0
 have a11_2_1:=F56.out.2.2.1.cell 1 _ rfl
 have f11_2_1:=F56.out.2.2.1.fz 1
 have a11_2_2:=F56.out.2.2.1.cell 2 _ rfl
 have f11_2_2:=F56.out.2.2.1.fz 2
 have ne11_0_1:¬ w1.heap.size=w3.heap.size:=by omega
 have ne11_0_2:¬ w1.heap.size=w54.heap.size:=by omega
 have ne11_1_0:¬ w3.heap.size=w1.heap.size:=by omega
 have ne11_1_2:¬ w3.heap.size=w54.heap.size:=by omega
 have ne11_2_0:¬ w54.heap.size=w1.heap.size:=by omega
 have ne11_2_1:¬ w54.heap.size=w3.heap.size:=by omega
 go_wp2_with fail
 all_goals first | (exfalso;omega) | skip
 refine (HP _).mono ?_
 rintro o57 w57 ⟨rfl,bb⟩
 have F57:Hid (Bk w57 (w1.heap.size) [.string d1,vI d2,.bool false]/\Bk w57 (w3.heap.size) [.string u,vI o,.bool false]/\Bk w57 (w54.heap.size) [.string e1,vI e2,.bool false]/\Bl w w57):=⟨(F56.out.1).step bb,(F56.out.2.1).step bb,(F56.out.2.2.1).step bb,(F56.out.2.2.2).trans (bb.mono (F56.out.2.2.2).size)⟩
 clear F56
 clear bb
 clear l11_0 a11_0_0 f11_0_0 a11_0_1 f11_0_1 a11_0_2 f11_0_2 l11_1 a11_1_0 f11_1_0 a11_1_1 f11_1_1 a11_1_2 f11_1_2 l11_2 a11_2_0 f11_2_0 a11_2_1 f11_2_1 a11_2_2 f11_2_2
 have lt0_3:=(F57.out.1).lt
 have lt1_3:=(F57.out.2.1).lt
 have lt2_3:=(F57.out.2.2.1).lt
 have le3:=(F57.out.2.2.2).size
 have F58:Hid (Bk (w57.alloc (.cells #[.string g1,vI g2,.bool false] 24)) (w1.heap.size) [.string d1,vI d2,.bool false]/\Bk (w57.alloc (.cells #[.string g1,vI g2,.bool false] 24)) (w3.heap.size) [.string u,vI o,.bool false]/\Bk (w57.alloc (.cells #[.string g1,vI g2,.bool false] 24)) (w54.heap.size) [.string e1,vI e2,.bool false]/\Bk (w57.alloc (.cells #[.string g1,vI g2,.bool false] 24)) (w57.heap.size) [.string g1,vI g2,.bool false]/\Bl w (w57.alloc (.cells #[.string g1,vI g2,.bool false] 24))):=⟨(F57.out.1).step (bz _ _),(F57.out.2.1).step (bz _ _),(F57.out.2.2.1).step (bz _ _),Bk.new3 w57 (.string g1) (vI g2) (.bool false) 24,(F57.out.2.2.2).alloc ((F57.out.2.2.2).size) _⟩
 clear F57
 go_upto_region 25 with fail
 generalize (w57.alloc (.cells #[.string g1,vI g2,.bool false] 24))=w58 at *
 have l12_0:=F58.out.1.lt
 have a12_0_0:=F58.out.1.cell 0 _ rfl
 have f12_0_0:=F58.out.1.fz 0
 have a12_0_1:=F58.out.1.cell 1 _ rfl
 have f12_0_1:=F58.out.1.fz 1
 have a12_0_2:=F58.out.1.cell 2 _ rfl
 have f12_0_2:=F58.out.1.fz 2
 have l12_1:=F58.out.2.1.lt
 have a12_1_0:=F58.out.2.1.cell 0 _ rfl
 have f12_1_0:=F58.out.2.1.fz 0
 have a12_1_1:=F58.out.2.1.cell 1 _ rfl
 have f12_1_1:=F58.out.2.1.fz 1
 have a12_1_2:=F58.out.2.1.cell 2 _ rfl
 have f12_1_2:=F58.out.2.1.fz 2
 have l12_2:=F58.out.2.2.1.lt
 have a12_2_0:=F58.out.2.2.1.cell 0 _ rfl
 have f12_2_0:=F58.out.2.2.1.fz 0
 have a12_2_1:=F58.out.2.2.1.cell 1 _ rfl
 have f12_2_1:=F58.out.2.2.1.fz 1
 have a12_2_2:=F58.out.2.2.1.cell 2 _ rfl
 have f12_2_2:=F58.out.2.2.1.fz 2
 have l12_3:=F58.out.2.2.2.1.lt
 have a12_3_0:=F58.out.2.2.2.1.cell 0 _ rfl
 have f12_3_0:=F58.out.2.2.2.1.fz 0
 have a12_3_1:=F58.out.2.2.2.1.cell 1 _ rfl
 have f12_3_1:=F58.out.2.2.2.1.fz 1
 have a12_3_2:=F58.out.2.2.2.1.cell 2 _ rfl
 have f12_3_2:=F58.out.2.2.2.1.fz 2
 have ne12_0_1:¬ w1.heap.size=w3.heap.size:=by omega
 have ne12_0_2:¬ w1.heap.size=w54.heap.size:=by omega
 have ne12_0_3:¬ w1.heap.size=w57.heap.size:=by omega
 have ne12_1_0:¬ w3.heap.size=w1.heap.size:=by omega
 have ne12_1_2:¬ w3.heap.size=w54.heap.size:=by omega
 have ne12_1_3:¬ w3.heap.size=w57.heap.size:=by omega
 have ne12_2_0:¬ w54.heap.size=w1.heap.size:=by omega
 have ne12_2_1:¬ w54.heap.size=w3.heap.size:=by omega
 have ne12_2_3:¬ w54.heap.size=w57.heap.size:=by omega
 have ne12_3_0:¬ w57.heap.size=w1.heap.size:=by omega
 have ne12_3_1:¬ w57.heap.size=w3.heap.size:=by omega
 have ne12_3_2:¬ w57.heap.size=w54.heap.size:=by omega
 go_wp2_with fail
 all_goals first | (exfalso;omega) | skip
 refine (HT _).mono ?_
 rintro o59 w59 ⟨rfl,bb⟩
 have F59:Hid (Bk w59 (w1.heap.size) [.string d1,vI d2,.bool false]/\Bk w59 (w3.heap.size) [.string u,vI o,.bool false]/\Bk w59 (w54.heap.size) [.string e1,vI e2,.bool false]/\Bk w59 (w57.heap.size) [.string g1,vI g2,.bool false]/\Bl w w59):=⟨(F58.out.1).step bb,(F58.out.2.1).step bb,(F58.out.2.2.1).step bb,(F58.out.2.2.2.1).step bb,(F58.out.2.2.2.2).trans (bb.mono (F58.out.2.2.2.2).size)⟩
 clear F58
 clear bb
 clear l12_0 a12_0_0 f12_0_0 a12_0_1 f12_0_1 a12_0_2 f12_0_2 l12_1 a12_1_0 f12_1_0 a12_1_1 f12_1_1 a12_1_2 f12_1_2 l12_2 a12_2_0 f12_2_0 a12_2_1 f12_2_1 a12_2_2 f12_2_2 l12_3 a12_3_0 f12_3_0 a12_3_1 f12_3_1 a12_3_2 f12_3_2
 have lt0_4:=(F59.out.1).lt
 have lt1_4:=(F59.out.2.1).lt
 have lt2_4:=(F59.out.2.2.1).lt
 have lt3_4:=(F59.out.2.2.2.1).lt
 have le4:=(F59.out.2.2.2.2).size
 have F60:Hid (Bk (w59.alloc (.cells #[.string t1,vI t2,.bool false] 24)) (w1.heap.size) [.string d1,vI d2,.bool false]/\Bk (w59.alloc (.cells #[.string t1,vI t2,.bool false] 24)) (w3.heap.size) [.string u,vI o,.bool false]/\Bk (w59.alloc (.cells #[.string t1,vI t2,.bool false] 24)) (w54.heap.size) [.string e1,vI e2,.bool false]/\Bk (w59.alloc (.cells #[.string t1,vI t2,.bool false] 24)) (w57.heap.size) [.string g1,vI g2,.bool false]/\Bk (w59.alloc (.cells #[.string t1,vI t2,.bool false] 24)) (w59.heap.size) [.string t1,vI t2,.bool false]/\Bl w (w59.alloc (.cells #[.string t1,vI t2,.bool false] 24))):=⟨(F59.out.1).step (bz _ _),(F59.out.2.1).step (bz _ _),(F59.out.2.2.1).step (bz _ _),(F59.out.2.2.2.1).step (bz _ _),Bk.new3 w59 (.string t1) (vI t2) (.bool false) 24,(F59.out.2.2.2.2).alloc ((F59.out.2.2.2.2).size) _⟩
 clear F59
 go_upto_region 26 with fail
 generalize (w59.alloc (.cells #[.string t1,vI t2,.bool false] 24))=w60 at *
 have l13_0:=F60.out.1.lt
 have a13_0_0:=F60.out.1.cell 0 _ rfl
 have f13_0_0:=F60.out.1.fz 0
 have a13_0_1:=F60.out.1.cell 1 _ rfl
 have f13_0_1:=F60.out.1.fz 1
 have a13_0_2:=F60.out.1.cell 2 _ rfl
 have f13_0_2:=F60.out.1.fz 2
 have l13_1:=F60.out.2.1.lt
 have a13_1_0:=F60.out.2.1.cell 0 _ rfl
 have f13_1_0:=F60.out.2.1.fz 0
 have a13_1_1:=F60.out.2.1.cell 1 _ rfl
 have f13_1_1:=F60.out.2.1.fz 1
 have a13_1_2:=F60.out.2.1.cell 2 _ rfl
 have f13_1_2:=F60.out.2.1.fz 2
 have l13_2:=F60.out.2.2.1.lt
 have a13_2_0:=F60.out.2.2.1.cell 0 _ rfl
 have f13_2_0:=F60.out.2.2.1.fz 0
 have a13_2_1:=F60.out.2.2.1.cell 1 _ rfl
 have f13_2_1:=F60.out.2.2.1.fz 1
 have a13_2_2:=F60.out.2.2.1.cell 2 _ rfl
 have f13_2_2:=F60.out.2.2.1.fz 2
 have l13_3:=F60.out.2.2.2.1.lt
 have a13_3_0:=F60.out.2.2.2.1.cell 0 _ rfl
 have f13_3_0:=F60.out.2.2.2.1.fz 0
 have a13_3_1:=F60.out.2.2.2.1.cell 1 _ rfl
 have f13_3_1:=F60.out.2.2.2.1.fz 1
 have a13_3_2:=F60.out.2.2.2.1.cell 2 _ rfl
 have f13_3_2:=F60.out.2.2.2.1.fz 2
 have l13_4:=F60.out.2.2.2.2.1.lt
 have a13_4_0:=F60.out.2.2.2.2.1.cell 0 _ rfl
 have f13_4_0:=F60.out.2.2.2.2.1.fz 0
 have a13_4_1:=F60.out.2.2.2.2.1.cell 1 _ rfl
 have f13_4_1:=F60.out.2.2.2.2.1.fz 1
 have a13_4_2:=F60.out.2.2.2.2.1.cell 2 _ rfl
 have f13_4_2:=F60.out.2.2.2.2.1.fz 2
 have ne13_0_1:¬ w1.heap.size=w3.heap.size:=by omega
 have ne13_0_2:¬ w1.heap.size=w54.heap.size:=by omega
 have ne13_0_3:¬ w1.heap.size=w57.heap.size:=by omega
 have ne13_0_4:¬ w1.heap.size=w59.heap.size:=by omega
 have ne13_1_0:¬ w3.heap.size=w1.heap.size:=by omega
 have ne13_1_2:¬ w3.heap.size=w54.heap.size:=by omega
 have ne13_1_3:¬ w3.heap.size=w57.heap.size:=by omega
 have ne13_1_4:¬ w3.heap.size=w59.heap.size:=by omega
 have ne13_2_0:¬ w54.heap.size=w1.heap.size:=by omega
 have ne13_2_1:¬ w54.heap.size=w3.heap.size:=by omega
 have ne13_2_3:¬ w54.heap.size=w57.heap.size:=by omega
 have ne13_2_4:¬ w54.heap.size=w59.heap.size:=by omega
 have ne13_3_0:¬ w57.heap.size=w1.heap.size:=by omega
 have ne13_3_1:¬ w57.heap.size=w3.heap.size:=by omega
 have ne13_3_2:¬ w57.heap.size=w54.heap.size:=by omega
 have ne13_3_4:¬ w57.heap.size=w59.heap.size:=by omega
 have ne13_4_0:¬ w59.heap.size=w1.heap.size:=by omega
 have ne13_4_1:¬ w59.heap.size=w3.heap.size:=by omega
 have ne13_4_2:¬ w59.heap.size=w54.heap.size:=by omega
 have ne13_4_3:¬ w59.heap.size=w57.heap.size:=by omega
 go_wp2_with fail
 all_goals first | (exfalso;omega) | skip
 refine (HK _).mono ?_
 rintro o61 w61 ⟨rfl,bb⟩
 have F61:Hid (Bk w61 (w1.heap.size) [.string d1,vI d2,.bool false]/\Bk w61 (w3.heap.size) [.string u,vI o,.bool false]/\Bk w61 (w54.heap.size) [.string e1,vI e2,.bool false]/\Bk w61 (w57.heap.size) [.string g1,vI g2,.bool false]/\Bk w61 (w59.heap.size) [.string t1,vI t2,.bool false]/\Bl w w61):=⟨(F60.out.1).step bb,(F60.out.2.1).step bb,(F60.out.2.2.1).step bb,(F60.out.2.2.2.1).step bb,(F60.out.2.2.2.2.1).step bb,(F60.out.2.2.2.2.2).trans (bb.mono (F60.out.2.2.2.2.2).size)⟩
 clear F60
 clear bb
 clear l13_0 a13_0_0 f13_0_0 a13_0_1 f13_0_1 a13_0_2 f13_0_2 l13_1 a13_1_0 f13_1_0 a13_1_1 f13_1_1 a13_1_2 f13_1_2 l13_2 a13_2_0 f13_2_0 a13_2_1 f13_2_1 a13_2_2 f13_2_2 l13_3 a13_3_0 f13_3_0 a13_3_1 f13_3_1 a13_3_2 f13_3_2 l13_4 a13_4_0 f13_4_0 a13_4_1 f13_4_1 a13_4_2 f13_4_2
 have l14_0:=F61.out.1.lt
 have a14_0_0:=F61.out.1.cell 0 _ rfl
 have f14_0_0:=F61.out.1.fz 0
 have a14_0_1:=F61.out.1.cell 1 _ rfl
 have f14_0_1:=F61.out.1.fz 1
 have a14_0_2:=F61.out.1.cell 2 _ rfl
 have f14_0_2:=F61.out.1.fz 2
 have l14_1:=F61.out.2.1.lt
 have a14_1_0:=F61.out.2.1.cell 0 _ rfl
 have f14_1_0:=F61.out.2.1.fz 0
 have a14_1_1:=F61.out.2.1.cell 1 _ rfl
 have f14_1_1:=F61.out.2.1.fz 1
 have a14_1_2:=F61.out.2.1.cell 2 _ rfl
 have f14_1_2:=F61.out.2.1.fz 2
 have l14_2:=F61.out.2.2.1.lt
 have a14_2_0:=F61.out.2.2.1.cell 0 _ rfl
 have f14_2_0:=F61.out.2.2.1.fz 0
 have a14_2_1:=F61.out.2.2.1.cell 1 _ rfl
 have f14_2_1:=F61.out.2.2.1.fz 1
 have a14_2_2:=F61.out.2.2.1.cell 2 _ rfl
 have f14_2_2:=F61.out.2.2.1.fz 2
 have l14_3:=F61.out.2.2.2.1.lt
 have a14_3_0:=F61.out.2.2.2.1.cell 0 _ rfl
 have f14_3_0:=F61.out.2.2.2.1.fz 0
 have a14_3_1:=F61.out.2.2.2.1.cell 1 _ rfl
 have f14_3_1:=F61.out.2.2.2.1.fz 1
 have a14_3_2:=F61.out.2.2.2.1.cell 2 _ rfl
 have f14_3_2:=F61.out.2.2.2.1.fz 2
 have l14_4:=F61.out.2.2.2.2.1.lt
 have a14_4_0:=F61.out.2.2.2.2.1.cell 0 _ rfl
 have f14_4_0:=F61.out.2.2.2.2.1.fz 0
 have a14_4_1:=F61.out.2.2.2.2.1.cell 1 _ rfl
 have f14_4_1:=F61.out.2.2.2.2.1.fz 1
 have a14_4_2:=F61.out.2.2.2.2.1.cell 2 _ rfl
 have f14_4_2:=F61.out.2.2.2.2.1.fz 2
 have ne14_0_1:¬ w1.heap.size=w3.heap.size:=by omega
 have ne14_0_2:¬ w1.heap.size=w54.heap.size:=by omega
 have ne14_0_3:¬ w1.heap.size=w57.heap.size:=by omega
 have ne14_0_4:¬ w1.heap.size=w59.heap.size:=by omega
 have ne14_1_0:¬ w3.heap.size=w1.heap.size:=by omega
 have ne14_1_2:¬ w3.heap.size=w54.heap.size:=by omega
 have ne14_1_3:¬ w3.heap.size=w57.heap.size:=by omega
 have ne14_1_4:¬ w3.heap.size=w59.heap.size:=by omega
 have ne14_2_0:¬ w54.heap.size=w1.heap.size:=by omega
 have ne14_2_1:¬ w54.heap.size=w3.heap.size:=by omega
 have ne14_2_3:¬ w54.heap.size=w57.heap.size:=by omega
 have ne14_2_4:¬ w54.heap.size=w59.heap.size:=by omega
 have ne14_3_0:¬ w57.heap.size=w1.heap.size:=by omega
 have ne14_3_1:¬ w57.heap.size=w3.heap.size:=by omega
 have ne14_3_2:¬ w57.heap.size=w54.heap.size:=by omega
 have ne14_3_4:¬ w57.heap.size=w59.heap.size:=by omega
 have ne14_4_0:¬ w59.heap.size=w1.heap.size:=by omega
 have ne14_4_1:¬ w59.heap.size=w3.heap.size:=by omega
 have ne14_4_2:¬ w59.heap.size=w54.heap.size:=by omega
 have ne14_4_3:¬ w59.heap.size=w57.heap.size:=by omega
 have k2:(k == 0)=false:=beq_eq_false_iff_ne.mpr (by omega)
 go_wp2_with fail
 all_goals first | (exfalso;omega) | skip
 refine (WK _).mono ?_
 rintro o62 w62 ⟨rfl,bb⟩
 have F62:Hid (Bk w62 (w1.heap.size) [.string d1,vI d2,.bool false]/\Bk w62 (w3.heap.size) [.string u,vI o,.bool false]/\Bk w62 (w54.heap.size) [.string e1,vI e2,.bool false]/\Bk w62 (w57.heap.size) [.string g1,vI g2,.bool false]/\Bk w62 (w59.heap.size) [.string t1,vI t2,.bool false]/\Bl w w62):=⟨(F61.out.1).step bb,(F61.out.2.1).step bb,(F61.out.2.2.1).step bb,(F61.out.2.2.2.1).step bb,(F61.out.2.2.2.2.1).step bb,(F61.out.2.2.2.2.2).trans (bb.mono (F61.out.2.2.2.2.2).size)⟩
 clear F61
 clear bb
 go_wp2
 go_ret
 exact ⟨rfl,F62.out.2.2.2.2.2⟩
theorem yE {b z x o d2:Int}{u d1:ByteArray}(u0:0<u.size) (n0:1<=d1.size) (n17:d1.size<=17) (hz:(z=32/\d1.size<=9) \/ ((z == 32)=false/\¬ z=32)) (nb:1<d1.size) {e1:ByteArray}{c e2:Int}{up:Bool}(hc:c ≠ 0) (hup:decide (c<0)=up) {g1 t1:ByteArray}{g2 t2 k m:Int}(hc0:¬ c<0) (hk:0<k) (HD:∀ W,Cb 8 #[vU b,vI z] W (.tuple #[.agg #[.string d1,vI d2,.bool false],.nilIface])) (HE:∀ W,Cb 18 #[vU b,vI z] W (.tuple #[.agg #[.string u,vI o,.bool false],vI 0])) (HV:∀ W,Cb 19 #[.agg #[.string d1,vI d2,.bool false]] W (vI 0)) (HN:∀ W,Cb 20 #[.agg #[.string d1,vI d2,.bool false],vI z] W (.tuple #[vU x,vI 0])) (HM:∀ W,Cb 21 #[vU b,vI z] W (vU x)) (HB:∀ W,Cb 22 #[vU b,vI z,vI ((d1.size:Int) - 1)] W (.tuple #[.bool false,vI 0])) (WK:∀ W,Cb 13 #[] W (.bool true)) (HC:∀ W,Cb 23 #[.agg #[.string d1,vI d2,.bool false],.agg #[.string u,vI o,.bool false]] W (.tuple #[vI c,vI 0])) (HX:∀ W,Cb 24 #[.agg #[.string d1,vI d2,.bool false],vI (d1.size:Int),.bool up] W (.agg #[.string e1,vI e2,.bool false])) (HI:∀ W,Cb 25 #[.agg #[.string e1,vI e2,.bool false],vU b,vI z] W (.tuple #[.bool true,vI 0])) (HP:∀ W,Cb 26 #[.agg #[.string d1,vI d2,.bool false],.agg #[.string e1,vI e2,.bool false]] W (.agg #[.string g1,vI g2,.bool false])) (HT:∀ W,Cb 27 #[.agg #[.string u,vI o,.bool false]] W (.tuple #[.agg #[.string t1,vI t2,.bool false],vI m])) (HK:∀ W,Cb 23 #[.agg #[.string t1,vI t2,.bool false],.agg #[.string g1,vI g2,.bool false]] W (.tuple #[vI k,vI 0]))  (w:World) :
 Cb 6 #[vU b,vI z] w (.bool true):=by
 have he:u.toList.isEmpty=false:=aB u0
 have wn:IntKind.i64.wrap ((d1.size:Int) - 1)=(d1.size:Int) - 1:=by
  unfold IntKind.wrap
  simp [IntKind.bits,IntKind.signed]
  omega
 have m1:¬ (d1.size:Int)<1:=by omega
 have m2:¬ 17<(d1.size:Int):=by omega
 have F0:Hid (Bl w w):=Below.refl _ _
 go_enter Tryz.func6,Tryz.ntmps6
 go_wp2_with fail
 all_goals first | (exfalso;omega) | skip
 refine (HD _).mono ?_
 rintro o1 w1 ⟨rfl,bb⟩
 have F1:Hid (Bl w w1):=(F0.out).trans (bb.mono (F0.out).size)
 clear F0
 clear bb
 have le0:=(F1.out).size
 have F2:Hid (Bk (w1.alloc (.cells #[.string d1,vI d2,.bool false] 24)) (w1.heap.size) [.string d1,vI d2,.bool false]/\Bl w (w1.alloc (.cells #[.string d1,vI d2,.bool false] 24))):=⟨Bk.new3 w1 (.string d1) (vI d2) (.bool false) 24,(F1.out).alloc ((F1.out).size) _⟩
 clear F1
 go_upto_region 2 with fail
 generalize (w1.alloc (.cells #[.string d1,vI d2,.bool false] 24))=w2 at *
 go_wp2_with fail
 all_goals first | (exfalso;omega) | skip
 refine (HE _).mono ?_
 rintro o3 w3 ⟨rfl,bb⟩
 have F3:Hid (Bk w3 (w1.heap.size) [.string d1,vI d2,.bool false]/\Bl w w3):=⟨(F2.out.1).step bb,(F2.out.2).trans (bb.mono (F2.out.2).size)⟩
 clear F2
 clear bb
 have lt0_1:=(F3.out.1).lt
 have le1:=(F3.out.2).size
 have F4:Hid (Bk (w3.alloc (.cells #[.string u,vI o,.bool false] 24)) (w1.heap.size) [.string d1,vI d2,.bool false]/\Bk (w3.alloc (.cells #[.string u,vI o,.bool false] 24)) (w3.heap.size) [.string u,vI o,.bool false]/\Bl w (w3.alloc (.cells #[.string u,vI o,.bool false] 24))):=⟨(F3.out.1).step (bz _ _),Bk.new3 w3 (.string u) (vI o) (.bool false) 24,(F3.out.2).alloc ((F3.out.2).size) _⟩
 clear F3
 go_upto_region 3 with fail
 generalize (w3.alloc (.cells #[.string u,vI o,.bool false] 24))=w4 at *
 have l1_0:=F4.out.1.lt
 have a1_0_0:=F4.out.1.cell 0 _ rfl
 have f1_0_0:=F4.out.1.fz 0
 have a1_0_1:=F4.out.1.cell 1 _ rfl
 have f1_0_1:=F4.out.1.fz 1
 have a1_0_2:=F4.out.1.cell 2 _ rfl
 have f1_0_2:=F4.out.1.fz 2
 have l1_1:=F4.out.2.1.lt
 have a1_1_0:=F4.out.2.1.cell 0 _ rfl
 have f1_1_0:=F4.out.2.1.fz 0
 have a1_1_1:=F4.out.2.1.cell 1 _ rfl
 have f1_1_1:=F4.out.2.1.fz 1
 have a1_1_2:=F4.out.2.1.cell 2 _ rfl
 have f1_1_2:=F4.out.2.1.fz 2
 have ne1_0_1:¬ w1.heap.size=w3.heap.size:=by omega
 have ne1_1_0:¬ w3.heap.size=w1.heap.size:=by omega
 go_upto_region 8 with fail
 go_cut [90] from 64 to 89 (fun v90 wx=>v90=.bool false/\Hid (Bk wx (w1.heap.size) [.string d1,vI d2,.bool false]/\Bk wx (w3.heap.size) [.string u,vI o,.bool false]/\Bl w wx))
 case first =>
  go_wp2_with fail
  refine (HV _).mono ?_
  rintro p1 v1 ⟨rfl,bb⟩
  have G1:Hid (Bk v1 (w1.heap.size) [.string d1,vI d2,.bool false]/\Bk v1 (w3.heap.size) [.string u,vI o,.bool false]/\Bl w v1):=⟨(F4.out.1).step bb,(F4.out.2.1).step bb,(F4.out.2.2).trans (bb.mono (F4.out.2.2).size)⟩
  clear bb
  clear l1_0 a1_0_0 f1_0_0 a1_0_1 f1_0_1 a1_0_2 f1_0_2 l1_1 a1_1_0 f1_1_0 a1_1_1 f1_1_1 a1_1_2 f1_1_2
  have d1_0_0:=(G1.out.1).cell 0 _ rfl
  have d1_0_1:=(G1.out.1).cell 1 _ rfl
  have d1_0_2:=(G1.out.1).cell 2 _ rfl
  have d1_1_0:=(G1.out.2.1).cell 0 _ rfl
  have d1_1_1:=(G1.out.2.1).cell 1 _ rfl
  have d1_1_2:=(G1.out.2.1).cell 2 _ rfl
  rcases hz with ⟨rfl,hz⟩ | ⟨hz,hz2⟩
  . have m3:¬ 9<(d1.size:Int):=by omega
    go_wp2
    all_goals go_meet
    all_goals exact ⟨by first | (simp;done) | (simp;omega),G1.out⟩
  . go_wp2
    all_goals go_meet
    all_goals exact ⟨by first | (simp;done) | (simp;omega),G1.out⟩
 case rest =>
 obtain ⟨rfl,HCC⟩:=hcut
 clear F4
 clear l1_0 a1_0_0 f1_0_0 a1_0_1 f1_0_1 a1_0_2 f1_0_2 l1_1 a1_1_0 f1_1_0 a1_1_1 f1_1_1 a1_1_2 f1_1_2
 have F50:Hid (Bk wc (w1.heap.size) [.string d1,vI d2,.bool false]/\Bk wc (w3.heap.size) [.string u,vI o,.bool false]/\Bl w wc):=HCC
 clear HCC
 have l6_0:=F50.out.1.lt
 have a6_0_0:=F50.out.1.cell 0 _ rfl
 have f6_0_0:=F50.out.1.fz 0
 have a6_0_1:=F50.out.1.cell 1 _ rfl
 have f6_0_1:=F50.out.1.fz 1
 have a6_0_2:=F50.out.1.cell 2 _ rfl
 have f6_0_2:=F50.out.1.fz 2
 have l6_1:=F50.out.2.1.lt
 have a6_1_0:=F50.out.2.1.cell 0 _ rfl
 have f6_1_0:=F50.out.2.1.fz 0
 have a6_1_1:=F50.out.2.1.cell 1 _ rfl
 have f6_1_1:=F50.out.2.1.fz 1
 have a6_1_2:=F50.out.2.1.cell 2 _ rfl
 have f6_1_2:=F50.out.2.1.fz 2
 have ne6_0_1:¬ w1.heap.size=w3.heap.size:=by omega
 have ne6_1_0:¬ w3.heap.size=w1.heap.size:=by omega
 go_wp2_with fail
 all_goals first | (exfalso;omega) | skip
 refine (HN _).mono ?_
 rintro o51 w51 ⟨rfl,bb⟩
 have F51:Hid (Bk w51 (w1.heap.size) [.string d1,vI d2,.bool false]/\Bk w51 (w3.heap.size) [.string u,vI o,.bool false]/\Bl w w51):=⟨(F50.out.1).step bb,(F50.out.2.1).step bb,(F50.out.2.2).trans (bb.mono (F50.out.2.2).size)⟩
 clear F50
 clear bb
 clear l6_0 a6_0_0 f6_0_0 a6_0_1 f6_0_1 a6_0_2 f6_0_2 l6_1 a6_1_0 f6_1_0 a6_1_1 f6_1_1 a6_1_2 f6_1_2
 have l7_0:=F51.out.1.lt
 have a7_0_0:=F51.out.1.cell 0 _ rfl
 have f7_0_0:=F51.out.1.fz 0
 have a7_0_1:=F51.out.1.cell 1 _ rfl
 have f7_0_1:=F51.out.1.fz 1
 have a7_0_2:=F51.out.1.cell 2 _ rfl
 have f7_0_2:=F51.out.1.fz 2
 have l7_1:=F51.out.2.1.lt
 have a7_1_0:=F51.out.2.1.cell 0 _ rfl
 have f7_1_0:=F51.out.2.1.fz 0
 have a7_1_1:=F51.out.2.1.cell 1 _ rfl
 have f7_1_1:=F51.out.2.1.fz 1
 have a7_1_2:=F51.out.2.1.cell 2 _ rfl
 have f7_1_2:=F51.out.2.1.fz 2
 have ne7_0_1:¬ w1.heap.size=w3.heap.size:=by omega
 have ne7_1_0:¬ w3.heap.size=w1.heap.size:=by omega
 go_wp2_with fail
 all_goals first | (exfalso;omega) | skip
 refine (HM _).mono ?_
 rintro o52 w52 ⟨rfl,bb⟩
 have F52:Hid (Bk w52 (w1.heap.size) [.string d1,vI d2,.bool false]/\Bk w52 (w3.heap.size) [.string u,vI o,.bool false]/\Bl w w52):=⟨(F51.out.1).step bb,(F51.out.2.1).step bb,(F51.out.2.2).trans (bb.mono (F51.out.2.2).size)⟩
 clear F51
 clear bb
 clear l7_0 a7_0_0 f7_0_0 a7_0_1 f7_0_1 a7_0_2 f7_0_2 l7_1 a7_1_0 f7_1_0 a7_1_1 f7_1_1 a7_1_2 f7_1_2
 have l8_0:=F52.out.1.lt
 have a8_0_0:=F52.out.1.cell 0 _ rfl
 have f8_0_0:=F52.out.1.fz 0
 have a8_0_1:=F52.out.1.cell 1 _ rfl
 have f8_0_1:=F52.out.1.fz 1
 have a8_0_2:=F52.out.1.cell 2 _ rfl
 have f8_0_2:=F52.out.1.fz 2
 have l8_1:=F52.out.2.1.lt
 have a8_1_0:=F52.out.2.1.cell 0 _ rfl
 have f8_1_0:=F52.out.2.1.fz 0
 have a8_1_1:=F52.out.2.1.cell 1 _ rfl
 have f8_1_1:=F52.out.2.1.fz 1
 have a8_1_2:=F52.out.2.1.cell 2 _ rfl
 have f8_1_2:=F52.out.2.1.fz 2
 have ne8_0_1:¬ w1.heap.size=w3.heap.size:=by omega
 have ne8_1_0:¬ w3.heap.size=w1.heap.size:=by omega
 have m4:1<(d1.size:Int):=by omega
 go_wp2_with fail
 all_goals first | (exfalso;omega) | skip
 refine (HB _).mono ?_
 rintro o53 w53 ⟨rfl,bb⟩
 have F53:Hid (Bk w53 (w1.heap.size) [.string d1,vI d2,.bool false]/\Bk w53 (w3.heap.size) [.string u,vI o,.bool false]/\Bl w w53):=⟨(F52.out.1).step bb,(F52.out.2.1).step bb,(F52.out.2.2).trans (bb.mono (F52.out.2.2).size)⟩
 clear F52
 clear bb
 clear l8_0 a8_0_0 f8_0_0 a8_0_1 f8_0_1 a8_0_2 f8_0_2 l8_1 a8_1_0 f8_1_0 a8_1_1 f8_1_1 a8_1_2 f8_1_2
 have l9_0:=F53.out.1.lt
 have a9_0_0:=F53.out.1.cell 0 _ rfl
 have f9_0_0:=F53.out.1.fz 0
 have a9_0_1:=F53.out.1.cell 1 _ rfl
 have f9_0_1:=F53.out.1.fz 1
 have a9_0_2:=F53.out.1.cell 2 _ rfl
 have f9_0_2:=F53.out.1.fz 2
 have l9_1:=F53.out.2.1.lt
 have a9_1_0:=F53.out.2.1.cell 0 _ rfl
 have f9_1_0:=F53.out.2.1.fz 0
 have a9_1_1:=F53.out.2.1.cell 1 _ rfl
 have f9_1_1:=F53.out.2.1.fz 1
 have a9_1_2:=F53.out.2.1.cell 2 _ rfl
 have f9_1_2:=F53.out.2.1.fz 2
 have ne9_0_1:¬ w1.heap.size=w3.heap.size:=by omega
 have ne9_1_0:¬ w3.heap.size=w1.heap.size:=by omega
 go_wp2_with fail
 all_goals first | (exfalso;omega) | skip
 refine (HC _).mono ?_
 rintro o54 w54 ⟨rfl,bb⟩
 have F54:Hid (Bk w54 (w1.heap.size) [.string d1,vI d2,.bool false]/\Bk w54 (w3.heap.size) [.string u,vI o,.bool false]/\Bl w w54):=⟨(F53.out.1).step bb,(F53.out.2.1).step bb,(F53.out.2.2).trans (bb.mono (F53.out.2.2).size)⟩
 clear F53
 clear bb
 clear l9_0 a9_0_0 f9_0_0 a9_0_1 f9_0_1 a9_0_2 f9_0_2 l9_1 a9_1_0 f9_1_0 a9_1_1 f9_1_1 a9_1_2 f9_1_2
 have k0:(c == 0)=false:=beq_eq_false_iff_ne.mpr hc
 have k1:¬ c<0:=by omega
 obtain rfl:up=false:=by rw [<- hup];exact decide_eq_false (by omega)
 have l10_0:=F54.out.1.lt
 have a10_0_0:=F54.out.1.cell 0 _ rfl
 have f10_0_0:=F54.out.1.fz 0
 have a10_0_1:=F54.out.1.cell 1 _ rfl
 have f10_0_1:=F54.out.1.fz 1
 have a10_0_2:=F54.out.1.cell 2 _ rfl
 have f10_0_2:=F54.out.1.fz 2
 have l10_1:=F54.out.2.1.lt
 have a10_1_0:=F54.out.2.1.cell 0 _ rfl
 have f10_1_0:=F54.out.2.1.fz 0
 have a10_1_1:=F54.out.2.1.cell 1 _ rfl
 have f10_1_1:=F54.out.2.1.fz 1
 have a10_1_2:=F54.out.2.1.cell 2 _ rfl
 have f10_1_2:=F54.out.2.1.fz 2
 have ne10_0_1:¬ w1.heap.size=w3.heap.size:=by omega
 have ne10_1_0:¬ w3.heap.size=w1.heap.size:=by omega
 go_wp2_with fail
 all_goals first | (exfalso;omega) | skip
 refine (HX _).mono ?_
 rintro o55 w55 ⟨rfl,bb⟩
 have F55:Hid (Bk w55 (w1.heap.size) [.string d1,vI d2,.bool false]/\Bk w55 (w3.heap.size) [.string u,vI o,.bool false]/\Bl w w55):=⟨(F54.out.1).step bb,(F54.out.2.1).step bb,(F54.out.2.2).trans (bb.mono (F54.out.2.2).size)⟩
 clear F54
 clear bb
 clear l10_0 a10_0_0 f10_0_0 a10_0_1 f10_0_1 a10_0_2 f10_0_2 l10_1 a10_1_0 f10_1_0 a10_1_1 f10_1_1 a10_1_2 f10_1_2
 have lt0_2:=(F55.out.1).lt
 have lt1_2:=(F55.out.2.1).lt
 have le2:=(F55.out.2.2).size
 have F56:Hid (Bk (w55.alloc (.cells #[.string e1,vI e2,.bool false] 24)) (w1.heap.size) [.string d1,vI d2,.bool false]/\Bk (w55.alloc (.cells #[.string e1,vI e2,.bool false] 24)) (w3.heap.size) [.string u,vI o,.bool false]/\Bk (w55.alloc (.cells #[.string e1,vI e2,.bool false] 24)) (w55.heap.size) [.string e1,vI e2,.bool false]/\Bl w (w55.alloc (.cells #[.string e1,vI e2,.bool false] 24))):=⟨(F55.out.1).step (bz _ _),(F55.out.2.1).step (bz _ _),Bk.new3 w55 (.string e1) (vI e2) (.bool false) 24,(F55.out.2.2).alloc ((F55.out.2.2).size) _⟩
 clear F55
 go_upto_region 21 with fail
 generalize (w55.alloc (.cells #[.string e1,vI e2,.bool false] 24))=w56 at *
 have l11_0:=F56.out.1.lt
 have a11_0_0:=F56.out.1.cell 0 _ rfl
 have f11_0_0:=F56.out.1.fz 0
 have a11_0_1:=F56.out.1.cell 1 _ rfl
 have f11_0_1:=F56.out.1.fz 1
 have a11_0_2:=F56.out.1.cell 2 _ rfl
 have f11_0_2:=F56.out.1.fz 2
 have l11_1:=F56.out.2.1.lt
 have a11_1_0:=F56.out.2.1.cell 0 _ rfl
 have f11_1_0:=F56.out.2.1.fz 0
 have a11_1_1:=F56.out.2.1.cell 1 _ rfl
 have f11_1_1:=F56.out.2.1.fz 1
 have a11_1_2:=F56.out.2.1.cell 2 _ rfl
 have f11_1_2:=F56.out.2.1.fz 2
 have l11_2:=F56.out.2.2.1.lt
 have a11_2_0:=F56.out.2.2.1.cell 0 _ rfl
 have f11_2_0:=F56.out.2.2.1.fz 0
 have a11_2_1:=F56.out.2.2.1.cell 1 _ rfl
 have f11_2_1:=F56.out.2.2.1.fz 1
 have a11_2_2:=F56.out.2.2.1.cell 2 _ rfl
 have f11_2_2:=F56.out.2.2.1.fz 2
 have ne11_0_1:¬ w1.heap.size=w3.heap.size:=by omega
 have ne11_0_2:¬ w1.heap.size=w55.heap.size:=by omega
 have ne11_1_0:¬ w3.heap.size=w1.heap.size:=by omega
 have ne11_1_2:¬ w3.heap.size=w55.heap.size:=by omega
 have ne11_2_0:¬ w55.heap.size=w1.heap.size:=by omega
 have ne11_2_1:¬ w55.heap.size=w3.heap.size:=by omega
 go_wp2_with fail
 all_goals first | (exfalso;omega) | skip
 refine (HI _).mono ?_
 rintro o57 w57 ⟨rfl,bb⟩
 have F57:Hid (Bk w57 (w1.heap.size) [.string d1,vI d2,.bool false]/\Bk w57 (w3.heap.size) [.string u,vI o,.bool false]/\Bk w57 (w55.heap.size) [.string e1,vI e2,.bool false]/\Bl w w57):=⟨(F56.out.1).step bb,(F56.out.2.1).step bb,(F56.out.2.2.1).step bb,(F56.out.2.2.2).trans (bb.mono (F56.out.2.2.2).size)⟩
 clear F56
 clear bb
 clear l11_0 a11_0_0 f11_0_0 a11_0_1 f11_0_1 a11_0_2 f11_0_2 l11_1 a11_1_0 f11_1_0 a11_1_1 f11_1_1 a11_1_2 f11_1_2 l11_2 a11_2_0 f11_2_0 a11_2_1 f11_2_1 a11_2_2 f11_2_2
 have l12_0:=F57.out.1.lt
 have a12_0_0:=F57.out.1.cell 0 _ rfl
 have f12_0_0:=F57.out.1.fz 0
 have a12_0_1:=F57.out.1.cell 1 _ rfl
 have f12_0_1:=F57.out.1.fz 1
 have a12_0_2:=F57.out.1.cell 2 _ rfl
 have f12_0_2:=F57.out.1.fz 2
 have l12_1:=F57.out.2.1.lt
 have a12_1_0:=F57.out.2.1.cell 0 _ rfl
 have f12_1_0:=F57.out.2.1.fz 0
 have a12_1_1:=F57.out.2.1.cell 1 _ rfl
 have f12_1_1:=F57.out.2.1.fz 1
 have a12_1_2:=F57.out.2.1.cell 2 _ rfl
 have f12_1_2:=F57.out.2.1.fz 2
 have l12_2:=F57.out.2.2.1.lt
 have a12_2_0:=F57.out.2.2.1.cell 0 _ rfl
 have f12_2_0:=F57.out.2.2.1.fz 0
 have a12_2_1:=F57.out.2.2.1.cell 1 _ rfl
 have f12_2_1:=F57.out.2.2.1.fz 1
 have a12_2_2:=F57.out.2.2.1.cell 2 _ rfl
 have f12_2_2:=F57.out.2.2.1.fz 2
 have ne12_0_1:¬ w1.heap.size=w3.heap.size:=by omega
 have ne12_0_2:¬ w1.heap.size=w55.heap.size:=by omega
 have ne12_1_0:¬ w3.heap.size=w1.heap.size:=by omega
 have ne12_1_2:¬ w3.heap.size=w55.heap.size:=by omega
 have ne12_2_0:¬ w55.heap.size=w1.heap.size:=by omega
 have ne12_2_1:¬ w55.heap.size=w3.heap.size:=by omega
 go_wp2_with fail
 all_goals first | (exfalso;omega) | skip
 refine (HP _).mono ?_
 rintro o58 w58 ⟨rfl,bb⟩
 have F58:Hid (Bk w58 (w1.heap.size) [.string d1,vI d2,.bool false]/\Bk w58 (w3.heap.size) [.string u,vI o,.bool false]/\Bk w58 (w55.heap.size) [.string e1,vI e2,.bool false]/\Bl w w58):=⟨(F57.out.1).step bb,(F57.out.2.1).step bb,(F57.out.2.2.1).step bb,(F57.out.2.2.2).trans (bb.mono (F57.out.2.2.2).size)⟩
 clear F57
 clear bb
 clear l12_0 a12_0_0 f12_0_0 a12_0_1 f12_0_1 a12_0_2 f12_0_2 l12_1 a12_1_0 f12_1_0 a12_1_1 f12_1_1 a12_1_2 f12_1_2 l12_2 a12_2_0 f12_2_0 a12_2_1 f12_2_1 a12_2_2 f12_2_2
 have lt0_3:=(F58.out.1).lt
 have lt1_3:=(F58.out.2.1).lt
 have lt2_3:=(F58.out.2.2.1).lt
 have le3:=(F58.out.2.2.2).size
 have F59:Hid (Bk (w58.alloc (.cells #[.string g1,vI g2,.bool false] 24)) (w1.heap.size) [.string d1,vI d2,.bool false]/\Bk (w58.alloc (.cells #[.string g1,vI g2,.bool false] 24)) (w3.heap.size) [.string u,vI o,.bool false]/\Bk (w58.alloc (.cells #[.string g1,vI g2,.bool false] 24)) (w55.heap.size) [.string e1,vI e2,.bool false]/\Bk (w58.alloc (.cells #[.string g1,vI g2,.bool false] 24)) (w58.heap.size) [.string g1,vI g2,.bool false]/\Bl w (w58.alloc (.cells #[.string g1,vI g2,.bool false] 24))):=⟨(F58.out.1).step (bz _ _),(F58.out.2.1).step (bz _ _),(F58.out.2.2.1).step (bz _ _),Bk.new3 w58 (.string g1) (vI g2) (.bool false) 24,(F58.out.2.2.2).alloc ((F58.out.2.2.2).size) _⟩
 clear F58
 go_upto_region 25 with fail
 generalize (w58.alloc (.cells #[.string g1,vI g2,.bool false] 24))=w59 at *
 have l13_0:=F59.out.1.lt
 have a13_0_0:=F59.out.1.cell 0 _ rfl
 have f13_0_0:=F59.out.1.fz 0
 have a13_0_1:=F59.out.1.cell 1 _ rfl
 have f13_0_1:=F59.out.1.fz 1
 have a13_0_2:=F59.out.1.cell 2 _ rfl
 have f13_0_2:=F59.out.1.fz 2
 have l13_1:=F59.out.2.1.lt
 have a13_1_0:=F59.out.2.1.cell 0 _ rfl
 have f13_1_0:=F59.out.2.1.fz 0
 have a13_1_1:=F59.out.2.1.cell 1 _ rfl
 have f13_1_1:=F59.out.2.1.fz 1
 have a13_1_2:=F59.out.2.1.cell 2 _ rfl
 have f13_1_2:=F59.out.2.1.fz 2
 have l13_2:=F59.out.2.2.1.lt
 have a13_2_0:=F59.out.2.2.1.cell 0 _ rfl
 have f13_2_0:=F59.out.2.2.1.fz 0
 have a13_2_1:=F59.out.2.2.1.cell 1 _ rfl
 have f13_2_1:=F59.out.2.2.1.fz 1
 have a13_2_2:=F59.out.2.2.1.cell 2 _ rfl
 have f13_2_2:=F59.out.2.2.1.fz 2
 have l13_3:=F59.out.2.2.2.1.lt
 have a13_3_0:=F59.out.2.2.2.1.cell 0 _ rfl
 have f13_3_0:=F59.out.2.2.2.1.fz 0
 have a13_3_1:=F59.out.2.2.2.1.cell 1 _ rfl
 have f13_3_1:=F59.out.2.2.2.1.fz 1
 have a13_3_2:=F59.out.2.2.2.1.cell 2 _ rfl
 have f13_3_2:=F59.out.2.2.2.1.fz 2
 have ne13_0_1:¬ w1.heap.size=w3.heap.size:=by omega
 have ne13_0_2:¬ w1.heap.size=w55.heap.size:=by omega
 have ne13_0_3:¬ w1.heap.size=w58.heap.size:=by omega
 have ne13_1_0:¬ w3.heap.size=w1.heap.size:=by omega
 have ne13_1_2:¬ w3.heap.size=w55.heap.size:=by omega
 have ne13_1_3:¬ w3.heap.size=w58.heap.size:=by omega
 have ne13_2_0:¬ w55.heap.size=w1.heap.size:=by omega
 have ne13_2_1:¬ w55.heap.size=w3.heap.size:=by omega
 have ne13_2_3:¬ w55.heap.size=w58.heap.size:=by omega
 have ne13_3_0:¬ w58.heap.size=w1.heap.size:=by omega
 have ne13_3_1:¬ w58.heap.size=w3.heap.size:=by omega
 have ne13_3_2:¬ w58.heap.size=w55.heap.size:=by omega
 go_wp2_with fail
 all_goals first | (exfalso;omega) | skip
 refine (HT _).mono ?_
 rintro o60 w60 ⟨rfl,bb⟩
 have F60:Hid (Bk w60 (w1.heap.size) [.string d1,vI d2,.bool false]/\Bk w60 (w3.heap.size) [.string u,vI o,.bool false]/\Bk w60 (w55.heap.size) [.string e1,vI e2,.bool false]/\Bk w60 (w58.heap.size) [.string g1,vI g2,.bool false]/\Bl w w60):=⟨(F59.out.1).step bb,(F59.out.2.1).step bb,(F59.out.2.2.1).step bb,(F59.out.2.2.2.1).step bb,(F59.out.2.2.2.2).trans (bb.mono (F59.out.2.2.2.2).size)⟩
 clear F59
 clear bb
 clear l13_0 a13_0_0 f13_0_0 a13_0_1 f13_0_1 a13_0_2 f13_0_2 l13_1 a13_1_0 f13_1_0 a13_1_1 f13_1_1 a13_1_2 f13_1_2 l13_2 a13_2_0 f13_2_0 a13_2_1 f13_2_1 a13_2_2 f13_2_2 l13_3 a13_3_0 f13_3_0 a13_3_1 f13_3_1 a13_3_2 f13_3_2
 have lt0_4:=(F60.out.1).lt
 have lt1_4:=(F60.out.2.1).lt
 have lt2_4:=(F60.out.2.2.1).lt
 have lt3_4:=(F60.out.2.2.2.1).lt
 have le4:=(F60.out.2.2.2.2).size
 have F61:Hid (Bk (w60.alloc (.cells #[.string t1,vI t2,.bool false] 24)) (w1.heap.size) [.string d1,vI d2,.bool false]/\Bk (w60.alloc (.cells #[.string t1,vI t2,.bool false] 24)) (w3.heap.size) [.string u,vI o,.bool false]/\Bk (w60.alloc (.cells #[.string t1,vI t2,.bool false] 24)) (w55.heap.size) [.string e1,vI e2,.bool false]/\Bk (w60.alloc (.cells #[.string t1,vI t2,.bool false] 24)) (w58.heap.size) [.string g1,vI g2,.bool false]/\Bk (w60.alloc (.cells #[.string t1,vI t2,.bool false] 24)) (w60.heap.size) [.string t1,vI t2,.bool false]/\Bl w (w60.alloc (.cells #[.string t1,vI t2,.bool false] 24))):=⟨(F60.out.1).step (bz _ _),(F60.out.2.1).step (bz _ _),(F60.out.2.2.1).step (bz _ _),(F60.out.2.2.2.1).step (bz _ _),Bk.new3 w60 (.string t1) (vI t2) (.bool false) 24,(F60.out.2.2.2.2).alloc ((F60.out.2.2.2.2).size) _⟩
 clear F60
 go_upto_region 26 with fail
 generalize (w60.alloc (.cells #[.string t1,vI t2,.bool false] 24))=w61 at *
 have l14_0:=F61.out.1.lt
 have a14_0_0:=F61.out.1.cell 0 _ rfl
 have f14_0_0:=F61.out.1.fz 0
 have a14_0_1:=F61.out.1.cell 1 _ rfl
 have f14_0_1:=F61.out.1.fz 1
 have a14_0_2:=F61.out.1.cell 2 _ rfl
 have f14_0_2:=F61.out.1.fz 2
 have l14_1:=F61.out.2.1.lt
 have a14_1_0:=F61.out.2.1.cell 0 _ rfl
 have f14_1_0:=F61.out.2.1.fz 0
 have a14_1_1:=F61.out.2.1.cell 1 _ rfl
 have f14_1_1:=F61.out.2.1.fz 1
 have a14_1_2:=F61.out.2.1.cell 2 _ rfl
 have f14_1_2:=F61.out.2.1.fz 2
 have l14_2:=F61.out.2.2.1.lt
 have a14_2_0:=F61.out.2.2.1.cell 0 _ rfl
 have f14_2_0:=F61.out.2.2.1.fz 0
 have a14_2_1:=F61.out.2.2.1.cell 1 _ rfl
 have f14_2_1:=F61.out.2.2.1.fz 1
 have a14_2_2:=F61.out.2.2.1.cell 2 _ rfl
 have f14_2_2:=F61.out.2.2.1.fz 2
 have l14_3:=F61.out.2.2.2.1.lt
 have a14_3_0:=F61.out.2.2.2.1.cell 0 _ rfl
 have f14_3_0:=F61.out.2.2.2.1.fz 0
 have a14_3_1:=F61.out.2.2.2.1.cell 1 _ rfl
 have f14_3_1:=F61.out.2.2.2.1.fz 1
 have a14_3_2:=F61.out.2.2.2.1.cell 2 _ rfl
 have f14_3_2:=F61.out.2.2.2.1.fz 2
 have l14_4:=F61.out.2.2.2.2.1.lt
 have a14_4_0:=F61.out.2.2.2.2.1.cell 0 _ rfl
 have f14_4_0:=F61.out.2.2.2.2.1.fz 0
 have a14_4_1:=F61.out.2.2.2.2.1.cell 1 _ rfl
 have f14_4_1:=F61.out.2.2.2.2.1.fz 1
 have a14_4_2:=F61.out.2.2.2.2.1.cell 2 _ rfl
 have f14_4_2:=F61.out.2.2.2.2.1.fz 2
 have ne14_0_1:¬ w1.heap.size=w3.heap.size:=by omega
 have ne14_0_2:¬ w1.heap.size=w55.heap.size:=by omega
 have ne14_0_3:¬ w1.heap.size=w58.heap.size:=by omega
 have ne14_0_4:¬ w1.heap.size=w60.heap.size:=by omega
 have ne14_1_0:¬ w3.heap.size=w1.heap.size:=by omega
 have ne14_1_2:¬ w3.heap.size=w55.heap.size:=by omega
 have ne14_1_3:¬ w3.heap.size=w58.heap.size:=by omega
 have ne14_1_4:¬ w3.heap.size=w60.heap.size:=by omega
 have ne14_2_0:¬ w55.heap.size=w1.heap.size:=by omega
 have ne14_2_1:¬ w55.heap.size=w3.heap.size:=by omega
 have ne14_2_3:¬ w55.heap.size=w58.heap.size:=by omega
 have ne14_2_4:¬ w55.heap.size=w60.heap.size:=by omega
 have ne14_3_0:¬ w58.heap.size=w1.heap.size:=by omega
 have ne14_3_1:¬ w58.heap.size=w3.heap.size:=by omega
 have ne14_3_2:¬ w58.heap.size=w55.heap.size:=by omega
 have ne14_3_4:¬ w58.heap.size=w60.heap.size:=by omega
 have ne14_4_0:¬ w60.heap.size=w1.heap.size:=by omega
 have ne14_4_1:¬ w60.heap.size=w3.heap.size:=by omega
 have ne14_4_2:¬ w60.heap.size=w55.heap.size:=by omega
 have ne14_4_3:¬ w60.heap.size=w58.heap.size:=by omega
 go_wp2_with fail
 all_goals first | (exfalso;omega) | skip
 refine (HK _).mono ?_
 rintro o62 w62 ⟨rfl,bb⟩
 have F62:Hid (Bk w62 (w1.heap.size) [.string d1,vI d2,.bool false]/\Bk w62 (w3.heap.size) [.string u,vI o,.bool false]/\Bk w62 (w55.heap.size) [.string e1,vI e2,.bool false]/\Bk w62 (w58.heap.size) [.string g1,vI g2,.bool false]/\Bk w62 (w60.heap.size) [.string t1,vI t2,.bool false]/\Bl w w62):=⟨(F61.out.1).step bb,(F61.out.2.1).step bb,(F61.out.2.2.1).step bb,(F61.out.2.2.2.1).step bb,(F61.out.2.2.2.2.1).step bb,(F61.out.2.2.2.2.2).trans (bb.mono (F61.out.2.2.2.2.2).size)⟩
 clear F61
 clear bb
 clear l14_0 a14_0_0 f14_0_0 a14_0_1 f14_0_1 a14_0_2 f14_0_2 l14_1 a14_1_0 f14_1_0 a14_1_1 f14_1_1 a14_1_2 f14_1_2 l14_2 a14_2_0 f14_2_0 a14_2_1 f14_2_1 a14_2_2 f14_2_2 l14_3 a14_3_0 f14_3_0 a14_3_1 f14_3_1 a14_3_2 f14_3_2 l14_4 a14_4_0 f14_4_0 a14_4_1 f14_4_1 a14_4_2 f14_4_2
 have l15_0:=F62.out.1.lt
 have a15_0_0:=F62.out.1.cell 0 _ rfl
 have f15_0_0:=F62.out.1.fz 0
 have a15_0_1:=F62.out.1.cell 1 _ rfl
 have f15_0_1:=F62.out.1.fz 1
 have a15_0_2:=F62.out.1.cell 2 _ rfl
 have f15_0_2:=F62.out.1.fz 2
 have l15_1:=F62.out.2.1.lt
 have a15_1_0:=F62.out.2.1.cell 0 _ rfl
 have f15_1_0:=F62.out.2.1.fz 0
 have a15_1_1:=F62.out.2.1.cell 1 _ rfl
 have f15_1_1:=F62.out.2.1.fz 1
 have a15_1_2:=F62.out.2.1.cell 2 _ rfl
 have f15_1_2:=F62.out.2.1.fz 2
 have l15_2:=F62.out.2.2.1.lt
 have a15_2_0:=F62.out.2.2.1.cell 0 _ rfl
 have f15_2_0:=F62.out.2.2.1.fz 0
 have a15_2_1:=F62.out.2.2.1.cell 1 _ rfl
 have f15_2_1:=F62.out.2.2.1.fz 1
 have a15_2_2:=F62.out.2.2.1.cell 2 _ rfl
 have f15_2_2:=F62.out.2.2.1.fz 2
 have l15_3:=F62.out.2.2.2.1.lt
 have a15_3_0:=F62.out.2.2.2.1.cell 0 _ rfl
 have f15_3_0:=F62.out.2.2.2.1.fz 0
 have a15_3_1:=F62.out.2.2.2.1.cell 1 _ rfl
 have f15_3_1:=F62.out.2.2.2.1.fz 1
 have a15_3_2:=F62.out.2.2.2.1.cell 2 _ rfl
 have f15_3_2:=F62.out.2.2.2.1.fz 2
 have l15_4:=F62.out.2.2.2.2.1.lt
 have a15_4_0:=F62.out.2.2.2.2.1.cell 0 _ rfl
 have f15_4_0:=F62.out.2.2.2.2.1.fz 0
 have a15_4_1:=F62.out.2.2.2.2.1.cell 1 _ rfl
 have f15_4_1:=F62.out.2.2.2.2.1.fz 1
 have a15_4_2:=F62.out.2.2.2.2.1.cell 2 _ rfl
 have f15_4_2:=F62.out.2.2.2.2.1.fz 2
 have ne15_0_1:¬ w1.heap.size=w3.heap.size:=by omega
 have ne15_0_2:¬ w1.heap.size=w55.heap.size:=by omega
 have ne15_0_3:¬ w1.heap.size=w58.heap.size:=by omega
 have ne15_0_4:¬ w1.heap.size=w60.heap.size:=by omega
 have ne15_1_0:¬ w3.heap.size=w1.heap.size:=by omega
 have ne15_1_2:¬ w3.heap.size=w55.heap.size:=by omega
 have ne15_1_3:¬ w3.heap.size=w58.heap.size:=by omega
 have ne15_1_4:¬ w3.heap.size=w60.heap.size:=by omega
 have ne15_2_0:¬ w55.heap.size=w1.heap.size:=by omega
 have ne15_2_1:¬ w55.heap.size=w3.heap.size:=by omega
 have ne15_2_3:¬ w55.heap.size=w58.heap.size:=by omega
 have ne15_2_4:¬ w55.heap.size=w60.heap.size:=by omega
 have ne15_3_0:¬ w58.heap.size=w1.heap.size:=by omega
 have ne15_3_1:¬ w58.heap.size=w3.heap.size:=by omega
 have ne15_3_2:¬ w58.heap.size=w55.heap.size:=by omega
 have ne15_3_4:¬ w58.heap.size=w60.heap.size:=by omega
 have ne15_4_0:¬ w60.heap.size=w1.heap.size:=by omega
 have ne15_4_1:¬ w60.heap.size=w3.heap.size:=by omega
 have ne15_4_2:¬ w60.heap.size=w55.heap.size:=by omega
 have ne15_4_3:¬ w60.heap.size=w58.heap.size:=by omega
 have k2:(k == 0)=false:=beq_eq_false_iff_ne.mpr (by omega)
 go_wp2_with fail
 all_goals first | (exfalso;omega) | skip
 refine (WK _).mono ?_
 rintro o63 w63 ⟨rfl,bb⟩
 have F63:Hid (Bk w63 (w1.heap.size) [.string d1,vI d2,.bool false]/\Bk w63 (w3.heap.size) [.string u,vI o,.bool false]/\Bk w63 (w55.heap.size) [.string e1,vI e2,.bool false]/\Bk w63 (w58.heap.size) [.string g1,vI g2,.bool false]/\Bk w63 (w60.heap.size) [.string t1,vI t2,.bool false]/\Bl w w63):=⟨(F62.out.1).step bb,(F62.out.2.1).step bb,(F62.out.2.2.1).step bb,(F62.out.2.2.2.1).step bb,(F62.out.2.2.2.2.1).step bb,(F62.out.2.2.2.2.2).trans (bb.mono (F62.out.2.2.2.2.2).size)⟩
 clear F62
 clear bb
 go_wp2
 go_ret
 exact ⟨rfl,F63.out.2.2.2.2.2⟩
theorem yD {b z x o d2:Int}{u d1:ByteArray}(u0:0<u.size) (n0:1<=d1.size) (n17:d1.size<=17) (hz:(z=32/\d1.size<=9) \/ ((z == 32)=false/\¬ z=32)) (nb:¬ 1<d1.size) {e1:ByteArray}{c e2:Int}{up:Bool}(hc:c ≠ 0) (hup:decide (c<0)=up) {g1 t1:ByteArray}{g2 t2 k m:Int}(hc0:¬ c<0) (hk:0<k) (HD:∀ W,Cb 8 #[vU b,vI z] W (.tuple #[.agg #[.string d1,vI d2,.bool false],.nilIface])) (HE:∀ W,Cb 18 #[vU b,vI z] W (.tuple #[.agg #[.string u,vI o,.bool false],vI 0])) (HV:∀ W,Cb 19 #[.agg #[.string d1,vI d2,.bool false]] W (vI 0)) (HN:∀ W,Cb 20 #[.agg #[.string d1,vI d2,.bool false],vI z] W (.tuple #[vU x,vI 0])) (HM:∀ W,Cb 21 #[vU b,vI z] W (vU x)) (WK:∀ W,Cb 13 #[] W (.bool true)) (HC:∀ W,Cb 23 #[.agg #[.string d1,vI d2,.bool false],.agg #[.string u,vI o,.bool false]] W (.tuple #[vI c,vI 0])) (HX:∀ W,Cb 24 #[.agg #[.string d1,vI d2,.bool false],vI (d1.size:Int),.bool up] W (.agg #[.string e1,vI e2,.bool false])) (HI:∀ W,Cb 25 #[.agg #[.string e1,vI e2,.bool false],vU b,vI z] W (.tuple #[.bool true,vI 0])) (HP:∀ W,Cb 26 #[.agg #[.string d1,vI d2,.bool false],.agg #[.string e1,vI e2,.bool false]] W (.agg #[.string g1,vI g2,.bool false])) (HT:∀ W,Cb 27 #[.agg #[.string u,vI o,.bool false]] W (.tuple #[.agg #[.string t1,vI t2,.bool false],vI m])) (HK:∀ W,Cb 23 #[.agg #[.string t1,vI t2,.bool false],.agg #[.string g1,vI g2,.bool false]] W (.tuple #[vI k,vI 0]))  (w:World) :
 Cb 6 #[vU b,vI z] w (.bool true):=by
 have he:u.toList.isEmpty=false:=aB u0
 have wn:IntKind.i64.wrap ((d1.size:Int) - 1)=(d1.size:Int) - 1:=by
  unfold IntKind.wrap
  simp [IntKind.bits,IntKind.signed]
  omega
 have m1:¬ (d1.size:Int)<1:=by omega
 have m2:¬ 17<(d1.size:Int):=by omega
 have F0:Hid (Bl w w):=Below.refl _ _
 go_enter Tryz.func6,Tryz.ntmps6
 go_wp2_with fail
 all_goals first | (exfalso;omega) | skip
 refine (HD _).mono ?_
 rintro o1 w1 ⟨rfl,bb⟩
 have F1:Hid (Bl w w1):=(F0.out).trans (bb.mono (F0.out).size)
 clear F0
 clear bb
 have le0:=(F1.out).size
 have F2:Hid (Bk (w1.alloc (.cells #[.string d1,vI d2,.bool false] 24)) (w1.heap.size) [.string d1,vI d2,.bool false]/\Bl w (w1.alloc (.cells #[.string d1,vI d2,.bool false] 24))):=⟨Bk.new3 w1 (.string d1) (vI d2) (.bool false) 24,(F1.out).alloc ((F1.out).size) _⟩
 clear F1
 go_upto_region 2 with fail
 generalize (w1.alloc (.cells #[.string d1,vI d2,.bool false] 24))=w2 at *
 go_wp2_with fail
 all_goals first | (exfalso;omega) | skip
 refine (HE _).mono ?_
 rintro o3 w3 ⟨rfl,bb⟩
 have F3:Hid (Bk w3 (w1.heap.size) [.string d1,vI d2,.bool false]/\Bl w w3):=⟨(F2.out.1).step bb,(F2.out.2).trans (bb.mono (F2.out.2).size)⟩
 clear F2
 clear bb
 have lt0_1:=(F3.out.1).lt
 have le1:=(F3.out.2).size
 have F4:Hid (Bk (w3.alloc (.cells #[.string u,vI o,.bool false] 24)) (w1.heap.size) [.string d1,vI d2,.bool false]/\Bk (w3.alloc (.cells #[.string u,vI o,.bool false] 24)) (w3.heap.size) [.string u,vI o,.bool false]/\Bl w (w3.alloc (.cells #[.string u,vI o,.bool false] 24))):=⟨(F3.out.1).step (bz _ _),Bk.new3 w3 (.string u) (vI o) (.bool false) 24,(F3.out.2).alloc ((F3.out.2).size) _⟩
 clear F3
 go_upto_region 3 with fail
 generalize (w3.alloc (.cells #[.string u,vI o,.bool false] 24))=w4 at *
 have l1_0:=F4.out.1.lt
 have a1_0_0:=F4.out.1.cell 0 _ rfl
 have f1_0_0:=F4.out.1.fz 0
 have a1_0_1:=F4.out.1.cell 1 _ rfl
 have f1_0_1:=F4.out.1.fz 1
 have a1_0_2:=F4.out.1.cell 2 _ rfl
 have f1_0_2:=F4.out.1.fz 2
 have l1_1:=F4.out.2.1.lt
 have a1_1_0:=F4.out.2.1.cell 0 _ rfl
 have f1_1_0:=F4.out.2.1.fz 0
 have a1_1_1:=F4.out.2.1.cell 1 _ rfl
 have f1_1_1:=F4.out.2.1.fz 1
 have a1_1_2:=F4.out.2.1.cell 2 _ rfl
 have f1_1_2:=F4.out.2.1.fz 2
 have ne1_0_1:¬ w1.heap.size=w3.heap.size:=by omega
 have ne1_1_0:¬ w3.heap.size=w1.heap.size:=by omega
 go_upto_region 8 with fail
 go_cut [90] from 64 to 89 (fun v90 wx=>v90=.bool false/\Hid (Bk wx (w1.heap.size) [.string d1,vI d2,.bool false]/\Bk wx (w3.heap.size) [.string u,vI o,.bool false]/\Bl w wx))
 case first =>
  go_wp2_with fail
  refine (HV _).mono ?_
  rintro p1 v1 ⟨rfl,bb⟩
  have G1:Hid (Bk v1 (w1.heap.size) [.string d1,vI d2,.bool false]/\Bk v1 (w3.heap.size) [.string u,vI o,.bool false]/\Bl w v1):=⟨(F4.out.1).step bb,(F4.out.2.1).step bb,(F4.out.2.2).trans (bb.mono (F4.out.2.2).size)⟩
  clear bb
  clear l1_0 a1_0_0 f1_0_0 a1_0_1 f1_0_1 a1_0_2 f1_0_2 l1_1 a1_1_0 f1_1_0 a1_1_1 f1_1_1 a1_1_2 f1_1_2
  have d1_0_0:=(G1.out.1).cell 0 _ rfl
  have d1_0_1:=(G1.out.1).cell 1 _ rfl
  have d1_0_2:=(G1.out.1).cell 2 _ rfl
  have d1_1_0:=(G1.out.2.1).cell 0 _ rfl
  have d1_1_1:=(G1.out.2.1).cell 1 _ rfl
  have d1_1_2:=(G1.out.2.1).cell 2 _ rfl
  rcases hz with ⟨rfl,hz⟩ | ⟨hz,hz2⟩
  . have m3:¬ 9<(d1.size:Int):=by omega
    go_wp2
    all_goals go_meet
    all_goals exact ⟨by first | (simp;done) | (simp;omega),G1.out⟩
  . go_wp2
    all_goals go_meet
    all_goals exact ⟨by first | (simp;done) | (simp;omega),G1.out⟩
 case rest =>
 obtain ⟨rfl,HCC⟩:=hcut
 clear F4
 clear l1_0 a1_0_0 f1_0_0 a1_0_1 f1_0_1 a1_0_2 f1_0_2 l1_1 a1_1_0 f1_1_0 a1_1_1 f1_1_1 a1_1_2 f1_1_2
 have F50:Hid (Bk wc (w1.heap.size) [.string d1,vI d2,.bool false]/\Bk wc (w3.heap.size) [.string u,vI o,.bool false]/\Bl w wc):=HCC
 clear HCC
 have l6_0:=F50.out.1.lt
 have a6_0_0:=F50.out.1.cell 0 _ rfl
 have f6_0_0:=F50.out.1.fz 0
 have a6_0_1:=F50.out.1.cell 1 _ rfl
 have f6_0_1:=F50.out.1.fz 1
 have a6_0_2:=F50.out.1.cell 2 _ rfl
 have f6_0_2:=F50.out.1.fz 2
 have l6_1:=F50.out.2.1.lt
 have a6_1_0:=F50.out.2.1.cell 0 _ rfl
 have f6_1_0:=F50.out.2.1.fz 0
 have a6_1_1:=F50.out.2.1.cell 1 _ rfl
 have f6_1_1:=F50.out.2.1.fz 1
 have a6_1_2:=F50.out.2.1.cell 2 _ rfl
 have f6_1_2:=F50.out.2.1.fz 2
 have ne6_0_1:¬ w1.heap.size=w3.heap.size:=by omega
 have ne6_1_0:¬ w3.heap.size=w1.heap.size:=by omega
 go_wp2_with fail
 all_goals first | (exfalso;omega) | skip
 refine (HN _).mono ?_
 rintro o51 w51 ⟨rfl,bb⟩
 have F51:Hid (Bk w51 (w1.heap.size) [.string d1,vI d2,.bool false]/\Bk w51 (w3.heap.size) [.string u,vI o,.bool false]/\Bl w w51):=⟨(F50.out.1).step bb,(F50.out.2.1).step bb,(F50.out.2.2).trans (bb.mono (F50.out.2.2).size)⟩
 clear F50
 clear bb
 clear l6_0 a6_0_0 f6_0_0 a6_0_1 f6_0_1 a6_0_2 f6_0_2 l6_1 a6_1_0 f6_1_0 a6_1_1 f6_1_1 a6_1_2 f6_1_2
 have l7_0:=F51.out.1.lt
 have a7_0_0:=F51.out.1.cell 0 _ rfl
 have f7_0_0:=F51.out.1.fz 0
 have a7_0_1:=F51.out.1.cell 1 _ rfl
 have f7_0_1:=F51.out.1.fz 1
 have a7_0_2:=F51.out.1.cell 2 _ rfl
 have f7_0_2:=F51.out.1.fz 2
 have l7_1:=F51.out.2.1.lt
 have a7_1_0:=F51.out.2.1.cell 0 _ rfl
 have f7_1_0:=F51.out.2.1.fz 0
 have a7_1_1:=F51.out.2.1.cell 1 _ rfl
 have f7_1_1:=F51.out.2.1.fz 1
 have a7_1_2:=F51.out.2.1.cell 2 _ rfl
 have f7_1_2:=F51.out.2.1.fz 2
 have ne7_0_1:¬ w1.heap.size=w3.heap.size:=by omega
 have ne7_1_0:¬ w3.heap.size=w1.heap.size:=by omega
 go_wp2_with fail
 all_goals first | (exfalso;omega) | skip
 refine (HM _).mono ?_
 rintro o52 w52 ⟨rfl,bb⟩
 have F52:Hid (Bk w52 (w1.heap.size) [.string d1,vI d2,.bool false]/\Bk w52 (w3.heap.size) [.string u,vI o,.bool false]/\Bl w w52):=⟨(F51.out.1).step bb,(F51.out.2.1).step bb,(F51.out.2.2).trans (bb.mono (F51.out.2.2).size)⟩
 clear F51
 clear bb
 clear l7_0 a7_0_0 f7_0_0 a7_0_1 f7_0_1 a7_0_2 f7_0_2 l7_1 a7_1_0 f7_1_0 a7_1_1 f7_1_1 a7_1_2 f7_1_2
 have l8_0:=F52.out.1.lt
 have a8_0_0:=F52.out.1.cell 0 _ rfl
 have f8_0_0:=F52.out.1.fz 0
 have a8_0_1:=F52.out.1.cell 1 _ rfl
 have f8_0_1:=F52.out.1.fz 1
 have a8_0_2:=F52.out.1.cell 2 _ rfl
 have f8_0_2:=F52.out.1.fz 2
 have l8_1:=F52.out.2.1.lt
 have a8_1_0:=F52.out.2.1.cell 0 _ rfl
 have f8_1_0:=F52.out.2.1.fz 0
 have a8_1_1:=F52.out.2.1.cell 1 _ rfl
 have f8_1_1:=F52.out.2.1.fz 1
 have a8_1_2:=F52.out.2.1.cell 2 _ rfl
 have f8_1_2:=F52.out.2.1.fz 2
 have ne8_0_1:¬ w1.heap.size=w3.heap.size:=by omega
 have ne8_1_0:¬ w3.heap.size=w1.heap.size:=by omega
 have m4:¬ 1<(d1.size:Int):=by omega
 go_wp2_with fail
 all_goals first | (exfalso;omega) | skip
 refine (HC _).mono ?_
 rintro o53 w53 ⟨rfl,bb⟩
 have F53:Hid (Bk w53 (w1.heap.size) [.string d1,vI d2,.bool false]/\Bk w53 (w3.heap.size) [.string u,vI o,.bool false]/\Bl w w53):=⟨(F52.out.1).step bb,(F52.out.2.1).step bb,(F52.out.2.2).trans (bb.mono (F52.out.2.2).size)⟩
 clear F52
 clear bb
 clear l8_0 a8_0_0 f8_0_0 a8_0_1 f8_0_1 a8_0_2 f8_0_2 l8_1 a8_1_0 f8_1_0 a8_1_1 f8_1_1 a8_1_2 f8_1_2
 have k0:(c == 0)=false:=beq_eq_false_iff_ne.mpr hc
 have k1:¬ c<0:=by omega
 obtain rfl:up=false:=by rw [<- hup];exact decide_eq_false (by omega)
 have l9_0:=F53.out.1.lt
 have a9_0_0:=F53.out.1.cell 0 _ rfl
 have f9_0_0:=F53.out.1.fz 0
 have a9_0_1:=F53.out.1.cell 1 _ rfl
 have f9_0_1:=F53.out.1.fz 1
 have a9_0_2:=F53.out.1.cell 2 _ rfl
 have f9_0_2:=F53.out.1.fz 2
 have l9_1:=F53.out.2.1.lt
 have a9_1_0:=F53.out.2.1.cell 0 _ rfl
 have f9_1_0:=F53.out.2.1.fz 0
 have a9_1_1:=F53.out.2.1.cell 1 _ rfl
 have f9_1_1:=F53.out.2.1.fz 1
 have a9_1_2:=F53.out.2.1.cell 2 _ rfl
 have f9_1_2:=F53.out.2.1.fz 2
 have ne9_0_1:¬ w1.heap.size=w3.heap.size:=by omega
 have ne9_1_0:¬ w3.heap.size=w1.heap.size:=by omega
 go_wp2_with fail
 all_goals first | (exfalso;omega) | skip
 refine (HX _).mono ?_
 rintro o54 w54 ⟨rfl,bb⟩
 have F54:Hid (Bk w54 (w1.heap.size) [.string d1,vI d2,.bool false]/\Bk w54 (w3.heap.size) [.string u,vI o,.bool false]/\Bl w w54):=⟨(F53.out.1).step bb,(F53.out.2.1).step bb,(F53.out.2.2).trans (bb.mono (F53.out.2.2).size)⟩
 clear F53
 clear bb
 clear l9_0 a9_0_0 f9_0_0 a9_0_1 f9_0_1 a9_0_2 f9_0_2 l9_1 a9_1_0 f9_1_0 a9_1_1 f9_1_1 a9_1_2 f9_1_2
 have lt0_2:=(F54.out.1).lt
 have lt1_2:=(F54.out.2.1).lt
 have le2:=(F54.out.2.2).size
 have F55:Hid (Bk (w54.alloc (.cells #[.string e1,vI e2,.bool false] 24)) (w1.heap.size) [.string d1,vI d2,.bool false]/\Bk (w54.alloc (.cells #[.string e1,vI e2,.bool false] 24)) (w3.heap.size) [.string u,vI o,.bool false]/\Bk (w54.alloc (.cells #[.string e1,vI e2,.bool false] 24)) (w54.heap.size) [.string e1,vI e2,.bool false]/\Bl w (w54.alloc (.cells #[.string e1,vI e2,.bool false] 24))):=⟨(F54.out.1).step (bz _ _),(F54.out.2.1).step (bz _ _),Bk.new3 w54 (.string e1) (vI e2) (.bool false) 24,(F54.out.2.2).alloc ((F54.out.2.2).size) _⟩
 clear F54
 go_upto_region 21 with fail
 generalize (w54.alloc (.cells #[.string e1,vI e2,.bool false] 24))=w55 at *
 have l10_0:=F55.out.1.lt
 have a10_0_0:=F55.out.1.cell 0 _ rfl
 have f10_0_0:=F55.out.1.fz 0
 have a10_0_1:=F55.out.1.cell 1 _ rfl
 have f10_0_1:=F55.out.1.fz 1
 have a10_0_2:=F55.out.1.cell 2 _ rfl
 have f10_0_2:=F55.out.1.fz 2
 have l10_1:=F55.out.2.1.lt
 have a10_1_0:=F55.out.2.1.cell 0 _ rfl
 have f10_1_0:=F55.out.2.1.fz 0
 have a10_1_1:=F55.out.2.1.cell 1 _ rfl
 have f10_1_1:=F55.out.2.1.fz 1
 have a10_1_2:=F55.out.2.1.cell 2 _ rfl
 have f10_1_2:=F55.out.2.1.fz 2
 have l10_2:=F55.out.2.2.1.lt
 have a10_2_0:=F55.out.2.2.1.cell 0 _ rfl
 have f10_2_0:=F55.out.2.2.1.fz 0
 have a10_2_1:=F55.out.2.2.1.cell 1 _ rfl
 have f10_2_1:=F55.out.2.2.1.fz 1
 have a10_2_2:=F55.out.2.2.1.cell 2 _ rfl
 have f10_2_2:=F55.out.2.2.1.fz 2
 have ne10_0_1:¬ w1.heap.size=w3.heap.size:=by omega
 have ne10_0_2:¬ w1.heap.size=w54.heap.size:=by omega
 have ne10_1_0:¬ w3.heap.size=w1.heap.size:=by omega
 have ne10_1_2:¬ w3.heap.size=w54.heap.size:=by omega
 have ne10_2_0:¬ w54.heap.size=w1.heap.size:=by omega
 have ne10_2_1:¬ w54.heap.size=w3.heap.size:=by omega
 go_wp2_with fail
 all_goals first | (exfalso;omega) | skip
 refine (HI _).mono ?_
 rintro o56 w56 ⟨rfl,bb⟩
 have F56:Hid (Bk w56 (w1.heap.size) [.string d1,vI d2,.bool false]/\Bk w56 (w3.heap.size) [.string u,vI o,.bool false]/\Bk w56 (w54.heap.size) [.string e1,vI e2,.bool false]/\Bl w w56):=⟨(F55.out.1).step bb,(F55.out.2.1).step bb,(F55.out.2.2.1).step bb,(F55.out.2.2.2).trans (bb.mono (F55.out.2.2.2).size)⟩
 clear F55
 clear bb
 clear l10_0 a10_0_0 f10_0_0 a10_0_1 f10_0_1 a10_0_2 f10_0_2 l10_1 a10_1_0 f10_1_0 a10_1_1 f10_1_1 a10_1_2 f10_1_2 l10_2 a10_2_0 f10_2_0 a10_2_1 f10_2_1 a10_2_2 f10_2_2
 have l11_0:=F56.out.1.lt
 have a11_0_0:=F56.out.1.cell 0 _ rfl
 have f11_0_0:=F56.out.1.fz 0
 have a11_0_1:=F56.out.1.cell 1 _ rfl
 have f11_0_1:=F56.out.1.fz 1
 have a11_0_2:=F56.out.1.cell 2 _ rfl
 have f11_0_2:=F56.out.1.fz 2
 have l11_1:=F56.out.2.1.lt
 have a11_1_0:=F56.out.2.1.cell 0 _ rfl
 have f11_1_0:=F56.out.2.1.fz 0
 have a11_1_1:=F56.out.2.1.cell 1 _ rfl
 have f11_1_1:=F56.out.2.1.fz 1
 have a11_1_2:=F56.out.2.1.cell 2 _ rfl
 have f11_1_2:=F56.out.2.1.fz 2
 have l11_2:=F56.out.2.2.1.lt
 have a11_2_0:=F56.out.2.2.1.cell 0 _ rfl
 have f11_2_0:=F56.out.2.2.1.fz 0
 have a11_2_1:=F56.out.2.2.1.cell 1 _ rfl
 have f11_2_1:=F56.out.2.2.1.fz 1
 have a11_2_2:=F56.out.2.2.1.cell 2 _ rfl
 have f11_2_2:=F56.out.2.2.1.fz 2
 have ne11_0_1:¬ w1.heap.size=w3.heap.size:=by omega
 have ne11_0_2:¬ w1.heap.size=w54.heap.size:=by omega
 have ne11_1_0:¬ w3.heap.size=w1.heap.size:=by omega
 have ne11_1_2:¬ w3.heap.size=w54.heap.size:=by omega
 have ne11_2_0:¬ w54.heap.size=w1.heap.size:=by omega
 have ne11_2_1:¬ w54.heap.size=w3.heap.size:=by omega
 go_wp2_with fail
 all_goals first | (exfalso;omega) | skip
 refine (HP _).mono ?_
 rintro o57 w57 ⟨rfl,bb⟩
 have F57:Hid (Bk w57 (w1.heap.size) [.string d1,vI d2,.bool false]/\Bk w57 (w3.heap.size) [.string u,vI o,.bool false]/\Bk w57 (w54.heap.size) [.string e1,vI e2,.bool false]/\Bl w w57):=⟨(F56.out.1).step bb,(F56.out.2.1).step bb,(F56.out.2.2.1).step bb,(F56.out.2.2.2).trans (bb.mono (F56.out.2.2.2).size)⟩
 clear F56
 clear bb
 clear l11_0 a11_0_0 f11_0_0 a11_0_1 f11_0_1 a11_0_2 f11_0_2 l11_1 a11_1_0 f11_1_0 a11_1_1 f11_1_1 a11_1_2 f11_1_2 l11_2 a11_2_0 f11_2_0 a11_2_1 f11_2_1 a11_2_2 f11_2_2
 have lt0_3:=(F57.out.1).lt
 have lt1_3:=(F57.out.2.1).lt
 have lt2_3:=(F57.out.2.2.1).lt
 have le3:=(F57.out.2.2.2).size
 have F58:Hid (Bk (w57.alloc (.cells #[.string g1,vI g2,.bool false] 24)) (w1.heap.size) [.string d1,vI d2,.bool false]/\Bk (w57.alloc (.cells #[.string g1,vI g2,.bool false] 24)) (w3.heap.size) [.string u,vI o,.bool false]/\Bk (w57.alloc (.cells #[.string g1,vI g2,.bool false] 24)) (w54.heap.size) [.string e1,vI e2,.bool false]/\Bk (w57.alloc (.cells #[.string g1,vI g2,.bool false] 24)) (w57.heap.size) [.string g1,vI g2,.bool false]/\Bl w (w57.alloc (.cells #[.string g1,vI g2,.bool false] 24))):=⟨(F57.out.1).step (bz _ _),(F57.out.2.1).step (bz _ _),(F57.out.2.2.1).step (bz _ _),Bk.new3 w57 (.string g1) (vI g2) (.bool false) 24,(F57.out.2.2.2).alloc ((F57.out.2.2.2).size) _⟩
 clear F57
 go_upto_region 25 with fail
 generalize (w57.alloc (.cells #[.string g1,vI g2,.bool false] 24))=w58 at *
 have l12_0:=F58.out.1.lt
 have a12_0_0:=F58.out.1.cell 0 _ rfl
 have f12_0_0:=F58.out.1.fz 0
 have a12_0_1:=F58.out.1.cell 1 _ rfl
 have f12_0_1:=F58.out.1.fz 1
 have a12_0_2:=F58.out.1.cell 2 _ rfl
 have f12_0_2:=F58.out.1.fz 2
 have l12_1:=F58.out.2.1.lt
 have a12_1_0:=F58.out.2.1.cell 0 _ rfl
 have f12_1_0:=F58.out.2.1.fz 0
 have a12_1_1:=F58.out.2.1.cell 1 _ rfl
 have f12_1_1:=F58.out.2.1.fz 1
 have a12_1_2:=F58.out.2.1.cell 2 _ rfl
 have f12_1_2:=F58.out.2.1.fz 2
 have l12_2:=F58.out.2.2.1.lt
 have a12_2_0:=F58.out.2.2.1.cell 0 _ rfl
 have f12_2_0:=F58.out.2.2.1.fz 0
 have a12_2_1:=F58.out.2.2.1.cell 1 _ rfl
 have f12_2_1:=F58.out.2.2.1.fz 1
 have a12_2_2:=F58.out.2.2.1.cell 2 _ rfl
 have f12_2_2:=F58.out.2.2.1.fz 2
 have l12_3:=F58.out.2.2.2.1.lt
 have a12_3_0:=F58.out.2.2.2.1.cell 0 _ rfl
 have f12_3_0:=F58.out.2.2.2.1.fz 0
 have a12_3_1:=F58.out.2.2.2.1.cell 1 _ rfl
 have f12_3_1:=F58.out.2.2.2.1.fz 1
 have a12_3_2:=F58.out.2.2.2.1.cell 2 _ rfl
 have f12_3_2:=F58.out.2.2.2.1.fz 2
 have ne12_0_1:¬ w1.heap.size=w3.heap.size:=by omega
 have ne12_0_2:¬ w1.heap.size=w54.heap.size:=by omega
 have ne12_0_3:¬ w1.heap.size=w57.heap.size:=by omega
 have ne12_1_0:¬ w3.heap.size=w1.heap.size:=by omega
 have ne12_1_2:¬ w3.heap.size=w54.heap.size:=by omega
 have ne12_1_3:¬ w3.heap.size=w57.heap.size:=by omega
 have ne12_2_0:¬ w54.heap.size=w1.heap.size:=by omega
 have ne12_2_1:¬ w54.heap.size=w3.heap.size:=by omega
 have ne12_2_3:¬ w54.heap.size=w57.heap.size:=by omega
 have ne12_3_0:¬ w57.heap.size=w1.heap.size:=by omega
 have ne12_3_1:¬ w57.heap.size=w3.heap.size:=by omega
 have ne12_3_2:¬ w57.heap.size=w54.heap.size:=by omega
 go_wp2_with fail
 all_goals first | (exfalso;omega) | skip
 refine (HT _).mono ?_
 rintro o59 w59 ⟨rfl,bb⟩
 have F59:Hid (Bk w59 (w1.heap.size) [.string d1,vI d2,.bool false]/\Bk w59 (w3.heap.size) [.string u,vI o,.bool false]/\Bk w59 (w54.heap.size) [.string e1,vI e2,.bool false]/\Bk w59 (w57.heap.size) [.string g1,vI g2,.bool false]/\Bl w w59):=⟨(F58.out.1).step bb,(F58.out.2.1).step bb,(F58.out.2.2.1).step bb,(F58.out.2.2.2.1).step bb,(F58.out.2.2.2.2).trans (bb.mono (F58.out.2.2.2.2).size)⟩
 clear F58
 clear bb
 clear l12_0 a12_0_0 f12_0_0 a12_0_1 f12_0_1 a12_0_2 f12_0_2 l12_1 a12_1_0 f12_1_0 a12_1_1 f12_1_1 a12_1_2 f12_1_2 l12_2 a12_2_0 f12_2_0 a12_2_1 f12_2_1 a12_2_2 f12_2_2 l12_3 a12_3_0 f12_3_0 a12_3_1 f12_3_1 a12_3_2 f12_3_2
 have lt0_4:=(F59.out.1).lt
 have lt1_4:=(F59.out.2.1).lt
 have lt2_4:=(F59.out.2.2.1).lt
 have lt3_4:=(F59.out.2.2.2.1).lt
 have le4:=(F59.out.2.2.2.2).size
 have F60:Hid (Bk (w59.alloc (.cells #[.string t1,vI t2,.bool false] 24)) (w1.heap.size) [.string d1,vI d2,.bool false]/\Bk (w59.alloc (.cells #[.string t1,vI t2,.bool false] 24)) (w3.heap.size) [.string u,vI o,.bool false]/\Bk (w59.alloc (.cells #[.string t1,vI t2,.bool false] 24)) (w54.heap.size) [.string e1,vI e2,.bool false]/\Bk (w59.alloc (.cells #[.string t1,vI t2,.bool false] 24)) (w57.heap.size) [.string g1,vI g2,.bool false]/\Bk (w59.alloc (.cells #[.string t1,vI t2,.bool false] 24)) (w59.heap.size) [.string t1,vI t2,.bool false]/\Bl w (w59.alloc (.cells #[.string t1,vI t2,.bool false] 24))):=⟨(F59.out.1).step (bz _ _),(F59.out.2.1).step (bz _ _),(F59.out.2.2.1).step (bz _ _),(F59.out.2.2.2.1).step (bz _ _),Bk.new3 w59 (.string t1) (vI t2) (.bool false) 24,(F59.out.2.2.2.2).alloc ((F59.out.2.2.2.2).size) _⟩
 clear F59
 go_upto_region 26 with fail
 generalize (w59.alloc (.cells #[.string t1,vI t2,.bool false] 24))=w60 at *
 have l13_0:=F60.out.1.lt
 have a13_0_0:=F60.out.1.cell 0 _ rfl
 have f13_0_0:=F60.out.1.fz 0
 have a13_0_1:=F60.out.1.cell 1 _ rfl
 have f13_0_1:=F60.out.1.fz 1
 have a13_0_2:=F60.out.1.cell 2 _ rfl
 have f13_0_2:=F60.out.1.fz 2
 have l13_1:=F60.out.2.1.lt
 have a13_1_0:=F60.out.2.1.cell 0 _ rfl
 have f13_1_0:=F60.out.2.1.fz 0
 have a13_1_1:=F60.out.2.1.cell 1 _ rfl
 have f13_1_1:=F60.out.2.1.fz 1
 have a13_1_2:=F60.out.2.1.cell 2 _ rfl
 have f13_1_2:=F60.out.2.1.fz 2
 have l13_2:=F60.out.2.2.1.lt
 have a13_2_0:=F60.out.2.2.1.cell 0 _ rfl
 have f13_2_0:=F60.out.2.2.1.fz 0
 have a13_2_1:=F60.out.2.2.1.cell 1 _ rfl
 have f13_2_1:=F60.out.2.2.1.fz 1
 have a13_2_2:=F60.out.2.2.1.cell 2 _ rfl
 have f13_2_2:=F60.out.2.2.1.fz 2
 have l13_3:=F60.out.2.2.2.1.lt
 have a13_3_0:=F60.out.2.2.2.1.cell 0 _ rfl
 have f13_3_0:=F60.out.2.2.2.1.fz 0
 have a13_3_1:=F60.out.2.2.2.1.cell 1 _ rfl
 have f13_3_1:=F60.out.2.2.2.1.fz 1
 have a13_3_2:=F60.out.2.2.2.1.cell 2 _ rfl
 have f13_3_2:=F60.out.2.2.2.1.fz 2
 have l13_4:=F60.out.2.2.2.2.1.lt
 have a13_4_0:=F60.out.2.2.2.2.1.cell 0 _ rfl
 have f13_4_0:=F60.out.2.2.2.2.1.fz 0
 have a13_4_1:=F60.out.2.2.2.2.1.cell 1 _ rfl
 have f13_4_1:=F60.out.2.2.2.2.1.fz 1
 have a13_4_2:=F60.out.2.2.2.2.1.cell 2 _ rfl
 have f13_4_2:=F60.out.2.2.2.2.1.fz 2
 have ne13_0_1:¬ w1.heap.size=w3.heap.size:=by omega
 have ne13_0_2:¬ w1.heap.size=w54.heap.size:=by omega
 have ne13_0_3:¬ w1.heap.size=w57.heap.size:=by omega
 have ne13_0_4:¬ w1.heap.size=w59.heap.size:=by omega
 have ne13_1_0:¬ w3.heap.size=w1.heap.size:=by omega
 have ne13_1_2:¬ w3.heap.size=w54.heap.size:=by omega
 have ne13_1_3:¬ w3.heap.size=w57.heap.size:=by omega
 have ne13_1_4:¬ w3.heap.size=w59.heap.size:=by omega
 have ne13_2_0:¬ w54.heap.size=w1.heap.size:=by omega
 have ne13_2_1:¬ w54.heap.size=w3.heap.size:=by omega
 have ne13_2_3:¬ w54.heap.size=w57.heap.size:=by omega
 have ne13_2_4:¬ w54.heap.size=w59.heap.size:=by omega
 have ne13_3_0:¬ w57.heap.size=w1.heap.size:=by omega
 have ne13_3_1:¬ w57.heap.size=w3.heap.size:=by omega
 have ne13_3_2:¬ w57.heap.size=w54.heap.size:=by omega
 have ne13_3_4:¬ w57.heap.size=w59.heap.size:=by omega
 have ne13_4_0:¬ w59.heap.size=w1.heap.size:=by omega
 have ne13_4_1:¬ w59.heap.size=w3.heap.size:=by omega
 have ne13_4_2:¬ w59.heap.size=w54.heap.size:=by omega
 have ne13_4_3:¬ w59.heap.size=w57.heap.size:=by omega
 go_wp2_with fail
 all_goals first | (exfalso;omega) | skip
 refine (HK _).mono ?_
 rintro o61 w61 ⟨rfl,bb⟩
 have F61:Hid (Bk w61 (w1.heap.size) [.string d1,vI d2,.bool false]/\Bk w61 (w3.heap.size) [.string u,vI o,.bool false]/\Bk w61 (w54.heap.size) [.string e1,vI e2,.bool false]/\Bk w61 (w57.heap.size) [.string g1,vI g2,.bool false]/\Bk w61 (w59.heap.size) [.string t1,vI t2,.bool false]/\Bl w w61):=⟨(F60.out.1).step bb,(F60.out.2.1).step bb,(F60.out.2.2.1).step bb,(F60.out.2.2.2.1).step bb,(F60.out.2.2.2.2.1).step bb,(F60.out.2.2.2.2.2).trans (bb.mono (F60.out.2.2.2.2.2).size)⟩
 clear F60
 clear bb
 clear l13_0 a13_0_0 f13_0_0 a13_0_1 f13_0_1 a13_0_2 f13_0_2 l13_1 a13_1_0 f13_1_0 a13_1_1 f13_1_1 a13_1_2 f13_1_2 l13_2 a13_2_0 f13_2_0 a13_2_1 f13_2_1 a13_2_2 f13_2_2 l13_3 a13_3_0 f13_3_0 a13_3_1 f13_3_1 a13_3_2 f13_3_2 l13_4 a13_4_0 f13_4_0 a13_4_1 f13_4_1 a13_4_2 f13_4_2
 have l14_0:=F61.out.1.lt
 have a14_0_0:=F61.out.1.cell 0 _ rfl
 have f14_0_0:=F61.out.1.fz 0
 have a14_0_1:=F61.out.1.cell 1 _ rfl
 have f14_0_1:=F61.out.1.fz 1
 have a14_0_2:=F61.out.1.cell 2 _ rfl
 have f14_0_2:=F61.out.1.fz 2
 have l14_1:=F61.out.2.1.lt
 have a14_1_0:=F61.out.2.1.cell 0 _ rfl
 have f14_1_0:=F61.out.2.1.fz 0
 have a14_1_1:=F61.out.2.1.cell 1 _ rfl
 have f14_1_1:=F61.out.2.1.fz 1
 have a14_1_2:=F61.out.2.1.cell 2 _ rfl
 have f14_1_2:=F61.out.2.1.fz 2
 have l14_2:=F61.out.2.2.1.lt
 have a14_2_0:=F61.out.2.2.1.cell 0 _ rfl
 have f14_2_0:=F61.out.2.2.1.fz 0
 have a14_2_1:=F61.out.2.2.1.cell 1 _ rfl
 have f14_2_1:=F61.out.2.2.1.fz 1
 have a14_2_2:=F61.out.2.2.1.cell 2 _ rfl
 have f14_2_2:=F61.out.2.2.1.fz 2
 have l14_3:=F61.out.2.2.2.1.lt
 have a14_3_0:=F61.out.2.2.2.1.cell 0 _ rfl
 have f14_3_0:=F61.out.2.2.2.1.fz 0
 have a14_3_1:=F61.out.2.2.2.1.cell 1 _ rfl
 have f14_3_1:=F61.out.2.2.2.1.fz 1
 have a14_3_2:=F61.out.2.2.2.1.cell 2 _ rfl
 have f14_3_2:=F61.out.2.2.2.1.fz 2
 have l14_4:=F61.out.2.2.2.2.1.lt
 have a14_4_0:=F61.out.2.2.2.2.1.cell 0 _ rfl
 have f14_4_0:=F61.out.2.2.2.2.1.fz 0
 have a14_4_1:=F61.out.2.2.2.2.1.cell 1 _ rfl
 have f14_4_1:=F61.out.2.2.2.2.1.fz 1
 have a14_4_2:=F61.out.2.2.2.2.1.cell 2 _ rfl
 have f14_4_2:=F61.out.2.2.2.2.1.fz 2
 have ne14_0_1:¬ w1.heap.size=w3.heap.size:=by omega
 have ne14_0_2:¬ w1.heap.size=w54.heap.size:=by omega
 have ne14_0_3:¬ w1.heap.size=w57.heap.size:=by omega
 have ne14_0_4:¬ w1.heap.size=w59.heap.size:=by omega
 have ne14_1_0:¬ w3.heap.size=w1.heap.size:=by omega
 have ne14_1_2:¬ w3.heap.size=w54.heap.size:=by omega
 have ne14_1_3:¬ w3.heap.size=w57.heap.size:=by omega
 have ne14_1_4:¬ w3.heap.size=w59.heap.size:=by omega
 have ne14_2_0:¬ w54.heap.size=w1.heap.size:=by omega
 have ne14_2_1:¬ w54.heap.size=w3.heap.size:=by omega
 have ne14_2_3:¬ w54.heap.size=w57.heap.size:=by omega
 have ne14_2_4:¬ w54.heap.size=w59.heap.size:=by omega
 have ne14_3_0:¬ w57.heap.size=w1.heap.size:=by omega
 have ne14_3_1:¬ w57.heap.size=w3.heap.size:=by omega
 have ne14_3_2:¬ w57.heap.size=w54.heap.size:=by omega
 have ne14_3_4:¬ w57.heap.size=w59.heap.size:=by omega
 have ne14_4_0:¬ w59.heap.size=w1.heap.size:=by omega
 have ne14_4_1:¬ w59.heap.size=w3.heap.size:=by omega
 have ne14_4_2:¬ w59.heap.size=w54.heap.size:=by omega
 have ne14_4_3:¬ w59.heap.size=w57.heap.size:=by omega
 have k2:(k == 0)=false:=beq_eq_false_iff_ne.mpr (by omega)
 go_wp2_with fail
 all_goals first | (exfalso;omega) | skip
 refine (WK _).mono ?_
 rintro o62 w62 ⟨rfl,bb⟩
 have F62:Hid (Bk w62 (w1.heap.size) [.string d1,vI d2,.bool false]/\Bk w62 (w3.heap.size) [.string u,vI o,.bool false]/\Bk w62 (w54.heap.size) [.string e1,vI e2,.bool false]/\Bk w62 (w57.heap.size) [.string g1,vI g2,.bool false]/\Bk w62 (w59.heap.size) [.string t1,vI t2,.bool false]/\Bl w w62):=⟨(F61.out.1).step bb,(F61.out.2.1).step bb,(F61.out.2.2.1).step bb,(F61.out.2.2.2.1).step bb,(F61.out.2.2.2.2.1).step bb,(F61.out.2.2.2.2.2).trans (bb.mono (F61.out.2.2.2.2.2).size)⟩
 clear F61
 clear bb
 go_wp2
 go_ret
 exact ⟨rfl,F62.out.2.2.2.2.2⟩
end Go.Proofs.YtblkokjkmbpejaaGreatDoor
