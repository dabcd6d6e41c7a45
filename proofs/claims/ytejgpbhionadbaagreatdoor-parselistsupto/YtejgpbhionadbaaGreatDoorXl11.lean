/-
  Holds: UEwF UEwN UCoM UCrA UCqM.
-/
import Derived.Laws.BitsAllLaws
import Derived.Test.YtejgpbhionadbaaGreatDoorChecked
import Derived.Lib.ItoaNum
import Derived.Laws.Externs
import Derived.WalkKit
import Derived.WalkSpells
import Derived.WalkLawsBesides
import Derived.Lib.Mul64
import Derived.Lib.TrailingZeros
import Derived.Deep.OwnRows
import Derived.Laws.CopyOwn
import Derived.BigQuiet
import Derived.Deep.RegionHeld3
import Derived.Deep.LoopGhost
import Derived.Deep.AppendLies
import Derived.Deep.DeepCutAuto
import Derived.Stop.Asserts
import Derived.RowKitTokens
import Derived.Lib.Strings
import Derived.Lib.BufferWrite
import Derived.Lib.ConvBytes
import Derived.Test.YtejgpbhionadbaaGreatDoorXl8
import Derived.Test.YtejgpbhionadbaaGreatDoorXl10
set_option maxRecDepth 100000
set_option maxHeartbeats 4000000
namespace Go.Proofs.YtejgpbhionadbaaGreatDoor
open Go.RowKit
theorem aEF       {z : Int} {g n f T : Nat} {L : Int} (hz : Fz z g n f T L) {s : ByteArray} {p : Int} {c : Bool} (h : VN s p c) (w : World) : Calls Tryz.prog 93 #[dcV s p c, .int .i64 z] w fun e w' => e = .returned (.tuple #[.int .u64 (((rdA f T L (frN s (nrP p)) (frD s (nrP p)) 0 c).1 : Nat) : Int), .int .i64 (if (rdA f T L (frN s (nrP p)) (frD s (nrP p)) 0 c).2 then 4 else 0)]) ∧ Below w.heap.size w w' := by
  have T0 := fun W => gT      hz W
  have T1 := fun W => uS        (.inr h) W
  have T2 := fun W => aLc    h.pos p c W
  have hl : s.size ≤ 801 := Nat.le_trans h.len (by decide)
  have T3 := fun W => aKN    hl h.dg c (qS     p).1 (qS     p).2 W
  have T4 : ∀ {W : World} {v1 v2 : Value}, Big.NatV W v1 (frN s (nrP p)) → Big.NatV W v2 (frD s (nrP p)) → _ := fun {W v1 v2} a b => aAl      hz (e := 0) c a b (aGw      hl h.dg (qS     p).2) (aGv      hl (qS     p).1) (Nat.ne_of_gt (Nat.mul_pos h.val (Nat.pow_pos (by decide)))) (fS     _) (by decide) (by decide)
  have hE := aI          h.pos
  generalize hA : rdA f T L (frN s (nrP p)) (frD s (nrP p)) 0 c = A at *
  generalize frN s (nrP p) = X at *
  generalize frD s (nrP p) = Y at *
  generalize nrP p = p' at *
  obtain ⟨b, over⟩ := A
  clear h hz hl hA
  unfold dcV at *
  go_enter Tryz.func93, Tryz.ntmps93
  go_wp2_with fail
  refine (T0 _).mono ?_
  rintro e w1 ⟨rfl, h1⟩
  have D1 : Hid (DcB w1 w.heap.size (.string s) (.int .i64 p) (.bool c)) := by rw [h1]; exact DcB.new w _ _ _ _
  have B1 : Hid (Below w.heap.size w w1) := by rw [h1]; exact (Below.refl _ _).alloc (Nat.le_refl _) _
  clear h1 T0
  obtain ⟨_, a0, a1, a2, _, _, _⟩ := D1.out
  go_wp2_with fail
  refine (T1 _).mono ?_
  rintro e w2 ⟨rfl, h2⟩
  have D2 : Hid (DcB w2 w.heap.size (.string s) (.int .i64 p) (.bool c)) := D1.out.step h2
  have B2 : Hid (Below w.heap.size w w2) := B1.out.trans (h2.mono B1.out.size)
  clear h2 T1 D1 B1 a0 a1 a2
  obtain ⟨_, a0, a1, a2, _, _, _⟩ := D2.out
  go_wp2_with fail
  refine (T2 _).mono ?_
  rintro e w3 ⟨rfl, h3⟩
  have D3 : Hid (DcB w3 w.heap.size (.string s) (.int .i64 p) (.bool c)) := D2.out.step h3
  have B3 : Hid (Below w.heap.size w w3) := B2.out.trans (h3.mono B2.out.size)
  clear h3 T2 D2 B2 a0 a1 a2
  go_wp2_with fail
  refine (T3 _).mono ?_
  rintro e w4 ⟨v1, v2, rfl, n1, n2, h4⟩
  have D4 : Hid (DcB w4 w.heap.size (.string s) (.int .i64 p) (.bool c)) := D3.out.step h4
  have B4 : Hid (Below w.heap.size w w4) := B3.out.trans (h4.mono B3.out.size)
  have T5 := T4 n1 n2
  clear h4 T3 D3 B3 n1 n2 T4
  obtain ⟨_, a0, a1, a2, _, _, _⟩ := D4.out
  go_wp2_with fail
  refine T5.mono ?_
  rintro e w5 ⟨rfl, h5⟩
  have B5 : Hid (Below w.heap.size w w5) := B4.out.trans (h5.mono B4.out.size)
  clear h5 T5 D4 B4 a0 a1 a2
  cases over with
  | true =>
    go_wp2
    exact bodyPost_ret (v := .tuple #[.int .u64 (b : Int), .int .i64 4]) (by simp [results, Tryz.results93, go_sem]) rfl ⟨rfl, B5.out⟩
  | false =>
    go_wp2
    exact bodyPost_ret (v := .tuple #[.int .u64 (b : Int), .int .i64 0]) (by simp [results, Tryz.results93, go_sem]) rfl ⟨rfl, B5.out⟩
theorem zJ {z:Int}{g n f T:Nat}{L:Int}(hz:Fz z g n f T L) (w:World):Cb 93 #[dcV ⟨#[]⟩ 0 false,vI z] w (.tuple #[vU 0,vI 0]):=by
 have T0:=fun W=>gT hz W
 have T1:=fun W=>uS (s:=⟨#[]⟩) (p:=0) (c:=false) (.inl ⟨rfl,rfl,rfl⟩) W
 clear hz
 unfold dcV at *
 go_enter Tryz.func93,Tryz.ntmps93
 go_wp2_with fail
 refine (T0 _).mono ?_
 rintro e w1 ⟨rfl,h1⟩
 have D1:Hid (DcB w1 w.heap.size (.string ⟨#[]⟩) (vI 0) (.bool false)):=by rw [h1];exact DcB.new w _ _ _ _
 have B1:Hid (Bl w w1):=by rw [h1];exact bz _ _
 clear h1 T0
 obtain ⟨_,a0,a1,a2,_,_,_⟩:=D1.out
 go_wp2_with fail
 refine (T1 _).mono ?_
 rintro e w2 ⟨rfl,h2⟩
 have D2:Hid (DcB w2 w.heap.size (.string ⟨#[]⟩) (vI 0) (.bool false)):=D1.out.step h2
 have B2:Hid (Bl w w2):=B1.out.trans (h2.mono B1.out.size)
 clear h2 T1 D1 B1 a0 a1 a2
 obtain ⟨_,a0,a1,a2,_,_,_⟩:=D2.out
 go_wp2
 exact bodyPost_ret (v:=.tuple #[vU 0,vI 0]) (by simp [results,Tryz.results93,go_sem]) rfl ⟨rfl,B2.out⟩
end Go.Proofs.YtejgpbhionadbaaGreatDoor
namespace Go.Proofs.YtejgpbhionadbaaGreatDoor
theorem aDM {s:ByteArray}(hd:DG s) (hf:dgt s 0 ≠ 48) {k:Nat}(hk:0<k):10 ^ (k - 1)<=dvA s 0 k:=by
 obtain ⟨j,rfl⟩:∃ j,k=1+j:=⟨k - 1,by omega⟩
 rw [gK,show 1+j - 1=j from by omega]
 have a:=gZ hd 0
 have e:dvA s 0 1=dgt s 0 - 48:=by rw [bH];show 0 * 10+(dgt s (0+0) - 48)=_;rw [Nat.add_zero];omega
 have b:1<=dvA s 0 1:=by rw [e];omega
 have c:=Nat.mul_le_mul_right (10 ^ j) b
 omega
theorem VN.ge {s:ByteArray}{p:Int}{c:Bool}(h:VN s p c):10 ^ (s.size - 1)<=dvA s 0 s.size:=aDM h.dg (by rw [cO h.pos];exact h.first) h.pos
theorem aDU {s:ByteArray}{q p:Int}{c:Bool}(h:VN s q c) (k:Nat) (hp:(k:Int)+1<=p):frD s p * 10 ^ k<=frN s p:=by
 unfold frN frD
 have z:=h.pos
 refine Nat.le_trans ?_ (Nat.mul_le_mul_right _ h.ge)
 rw [<- Nat.pow_add,<- Nat.pow_add]
 exact Nat.pow_le_pow_right (by decide) (by omega)
theorem aDT {s:ByteArray}{q p:Int}{c:Bool}(h:VN s q c) (k:Nat) (hp:p <= -(k:Int)):frN s p * 10 ^ k<frD s p:=by
 unfold frN frD
 have a:=dN h.dg 0 s.size
 rw [show (p - (s.size:Int)).toNat=0 from by omega,Nat.pow_zero,Nat.mul_one]
 have b:=Nat.mul_lt_mul_of_pos_right a (Nat.pow_pos (n:=k) (show 0<10 by decide))
 refine Nat.lt_of_lt_of_le b ?_
 rw [<- Nat.pow_add]
 exact Nat.pow_le_pow_right (by decide) (by omega)
theorem aKM {nn dd N D A B:Nat}(hA:A<B) (hD:0<D) (hd:0<dd) (h:dd * B<=nn) (k:N<=D * A):N * dd<nn * D:=by
 have a:=Nat.mul_le_mul_right dd k
 have b:D * A * dd<D * B * dd:=Nat.mul_lt_mul_of_pos_right (Nat.mul_lt_mul_of_pos_left hA hD) hd
 have c:=Nat.mul_le_mul_right D h
 have e:D * B * dd=dd * B * D:=by rw [Nat.mul_assoc,Nat.mul_comm D,Nat.mul_comm B dd]
 omega
theorem aKL {nn dd N D A B:Nat}(hA:A<=B) (hN:0<N) (h:nn * B<dd) (k:D<=N * A):nn * D<N * dd:=by
 have a:=Nat.mul_le_mul_left nn k
 have b:nn * (N * A)<=nn * (N * B):=Nat.mul_le_mul_left nn (Nat.mul_le_mul_left N hA)
 have c:=Nat.mul_lt_mul_of_pos_left h hN
 have e:nn * (N * B)=N * (nn * B):=Nat.mul_left_comm _ _ _
 omega
theorem Frc.within {N D m:Nat}{x:Int}(h:Frc N D m x) {k a:Nat}(hm:m<2 ^ k) (ha:k<=a) (x1:x+k<=a):N<=D * 2 ^ a:=by
 have h':=h.1
 rcases Int.lt_or_le x 0 with c | c
 . have q:=h'.at x (by omega) (Int.le_refl _)
   rw [aB] at q
   unfold ev at q
   have b:D * m<=D * 2 ^ a:=Nat.mul_le_mul_left D (Nat.le_trans (Nat.le_of_lt hm) (Nat.pow_le_pow_right (by decide) ha))
   rw [<- q] at b
   exact Nat.le_trans (Nat.le_mul_of_pos_right _ (Nat.two_pow_pos _)) b
 . have q:=h'.at 0 (Int.le_refl _) c
   rw [aB] at q
   unfold ev at q
   rw [q]
   refine Nat.mul_le_mul_left D ?_
   refine Nat.le_trans (Nat.mul_le_mul_right _ (Nat.le_of_lt hm)) ?_
   rw [<- Nat.pow_add]
   exact Nat.pow_le_pow_right (by decide) (by omega)
theorem Frc.above {N D m:Nat}{x:Int}(h:Frc N D m x) {a:Nat}(m0:0<m) (x1:-(a:Int)<=x):D<=N * 2 ^ a:=by
 have h':=h.1
 rcases Int.lt_or_le x 0 with c | c
 . have q:=h'.at x (by omega) (Int.le_refl _)
   rw [aB] at q
   unfold ev at q
   refine Nat.le_trans (Nat.le_mul_of_pos_right D m0) ?_
   rw [<- q]
   exact Nat.mul_le_mul_left N (Nat.pow_le_pow_right (by decide) (by omega))
 . have q:=h'.at 0 (Int.le_refl _) c
   rw [aB] at q
   unfold ev at q
   rw [q]
   refine Nat.le_trans ?_ (Nat.le_mul_of_pos_right _ (Nat.two_pow_pos _))
   exact Nat.le_mul_of_pos_right D (Nat.mul_pos m0 (Nat.two_pow_pos _))
def oc (n d:Nat) (c:Bool) (N D:Nat):Int:=if ord (n * D) (N * d)=0/\c=true then 1 else ord (n * D) (N * d)
theorem wI {n d N D:Nat}{c:Bool}(h:N * d<n * D):oc n d c N D=1:=by
 have e:ord (n * D) (N * d)=1:=by unfold ord;rw [if_neg (by omega),if_pos h]
 unfold oc
 rw [e,if_neg (by omega)]
theorem wJ {n d N D:Nat}{c:Bool}(h:n * D<N * d):oc n d c N D = -1:=by
 have e:ord (n * D) (N * d) = -1:=by unfold ord;rw [if_pos h]
 unfold oc
 rw [e,if_neg (by omega)]
theorem aH4 {n d N D:Nat}{c:Bool}(h:n * D=N * d):oc n d c N D=if c then 1 else 0:=by
 have e:ord (n * D) (N * d)=0:=by unfold ord;rw [if_neg (by omega),if_neg (by omega)]
 unfold oc
 rw [e]
 cases c <;> simp
theorem uP {s:ByteArray}{q p:Int}{c:Bool}(h:VN s q c) {D:Nat}(D0:0<D) (b:Bool):oc (frN s p) (frD s p) b 0 D=1:=by
 apply wI
 rw [Nat.zero_mul]
 exact Nat.mul_pos (Nat.mul_pos h.val (Nat.pow_pos (by decide))) D0
theorem wP {f:Nat}{L:Int}{n d N D b:Nat}{c:Bool}(h:Frc N D (hM f b) (hX f L b)) (D0:0<D):Up f L n d 0 c b ↔ (oc n d c N D = -1 \/ (oc n d c N D=0/\b % 2=0)):=by
 obtain ⟨c1,c2⟩:=aIL (n:=n) (d:=d) h D0
 unfold Up
 rw [c1,c2]
 rcases Nat.lt_trichotomy (n * D) (N * d) with z | z | z
 . rw [wJ z]
   constructor
   . intro _;exact .inl rfl
   . intro _;exact .inl z
 . rw [aH4 z]
   cases c
   . constructor
     . rintro (y | ⟨_,y,_⟩)
       . omega
       . exact .inr ⟨rfl,y⟩
     . rintro (y | ⟨_,y⟩)
       . simp at y
       . exact .inr ⟨z,y,rfl⟩
   . constructor
     . rintro (y | ⟨_,_,y⟩)
       . omega
       . cases y
     . rintro (y | ⟨y,_⟩)
       . simp at y
       . simp at y
 . rw [wI z]
   constructor
   . rintro (y | ⟨y,_⟩) <;> omega
   . rintro (y | ⟨y,_⟩) <;> omega
theorem aG3 (n d:Nat) (c:Bool) (N D:Nat):oc n d c N D = -1 \/ oc n d c N D=0 \/ oc n d c N D=1:=by
 rcases Nat.lt_trichotomy (n * D) (N * d) with z | z | z
 . exact .inl (wJ z)
 . rw [aH4 z]
   cases c
   . exact .inr (.inl rfl)
   . exact .inr (.inr rfl)
 . exact .inr (.inr (wI z))
end Go.Proofs.YtejgpbhionadbaaGreatDoor
namespace Go.Proofs.YtejgpbhionadbaaGreatDoor
open Go.RowKit
theorem aFd {s:Int}{g n f T:Nat}{L:Int}(h:Fz s g n f T L) {b:Nat}(hb:b<2 * g) (w:World):Cs 16 #[vU (b:Int),vI s] w (vU ((mg g b:Nat):Int)):=by
 rcases h with ⟨rfl,rfl,rfl,rfl,rfl,rfl⟩ | ⟨rfl,rfl,rfl,rfl,rfl,rfl⟩
 . exact aJx hb w
 . exact aJy hb w
theorem tL {s:ByteArray}(h:s.size=0):s=⟨#[]⟩:=by
 apply ByteArray.ext
 exact Array.eq_empty_of_size_eq_zero h
theorem VD.dg {s:ByteArray}{p:Int}{c:Bool}(h:VD s p c):DG s/\s.size<=801:=by
 rcases h with ⟨h,_⟩ | h
 . exact ⟨fun k hk=>absurd hk (by omega),by omega⟩
 . exact ⟨h.dg,by have:=h.len;omega⟩
theorem mM {s:Int}{t:ByteArray}{p:Int}{c:Bool}{x k:Int}{w:World}
 (NR:∀ W,Cb 93 #[dcV t p c,vI s] W (.tuple #[vU x,vI k])) :
 Cb 62 #[dcV t p c,vI s] w (.tuple #[vU x,vI k]):=by
 unfold dcV at *
 have B0:Hid (Bl w (w.alloc (.cells #[.string t,vI p,.bool c] 41))):=bz _ _
 go_enter Tryz.func62,Tryz.ntmps62
 go_wp2_with fail
 refine (NR _).mono ?_
 rintro o w1 ⟨rfl,b1⟩
 have B1:Hid (Bl w w1):=B0.out.trans (b1.mono B0.out.size)
 clear b1 B0 NR
 go_wp2
 go_ret2
 exact ⟨rfl,B1.out⟩
def nrX (f T:Nat) (L:Int) (s:ByteArray) (p:Int) (c:Bool):Nat × Bool:=if s.size=0 then (0,false) else rdA f T L (frN s (nrP p)) (frD s (nrP p)) 0 c
theorem aEG {z:Int}{g n f T:Nat}{L:Int}(hz:Fz z g n f T L) {s:ByteArray}{p:Int}{c:Bool}(h:VD s p c) (w:World):Cb 62 #[dcV s p c,vI z] w (.tuple #[vU (((nrX f T L s p c).1:Nat):Int),vI (if (nrX f T L s p c).2 then 4 else 0)]):=by
 rcases h with ⟨h,rfl,rfl⟩ | h
 . obtain rfl:=tL h
   exact mM fun W=>zJ hz W
 . have e:nrX f T L s p c=rdA f T L (frN s (nrP p)) (frD s (nrP p)) 0 c:=by unfold nrX;rw [if_neg (by have:=h.pos;omega)]
   rw [e]
   exact mM fun W=>aEF hz h W
end Go.Proofs.YtejgpbhionadbaaGreatDoor
namespace Go.Proofs.YtejgpbhionadbaaGreatDoor
def clP (p:Int):Int:=max (-324) (min p 310)
def Alk (p q:Int):Prop:=q=p \/ (310<=p/\310<=q) \/ (p <= -324/\q <= -324)
theorem lU (p:Int):-324<=clP p/\clP p<=310:=by unfold clP;omega
theorem aKd (p:Int):Alk (clP p) (nrP p):=by
 unfold Alk nrP clP
 split
 . omega
 . split <;> omega
theorem aLI:∃ a e:Nat,a=1024/\e=309/\2 ^ a<10 ^ e:=⟨1024,309,rfl,rfl,by decide +kernel⟩
theorem aLG:∃ a e:Nat,a=1075/\e=324/\2 ^ a<=10 ^ e:=⟨1075,324,rfl,rfl,by decide +kernel⟩
structure Bnd (m:Nat) (x:Int):Prop where
 hi:∃ k:Nat,m<2 ^ k/\k<=64/\x+k<=1024
 lo:-1075<=x
theorem xE {s:Int}{g n f T:Nat}{L:Int}(hz:Fz s g n f T L) {b:Nat}(hb:b<n):Bnd (hM f b) (hX f L b):=by
 obtain ⟨p1,p2,p3⟩:=aEQ hz hb
 have e:(2:Nat) ^ 54=18014398509481984:=by decide
 unfold hM hX
 exact ⟨⟨54,by rw [e];omega,by decide,by omega⟩,by omega⟩
theorem aH5 {s:ByteArray}{q p:Int}{c:Bool}(h:VN s q c) (hp:310<=p) {N D m:Nat}{x:Int}(k:Frc N D m x) (hb:Bnd m x) (b:Bool):oc (frN s p) (frD s p) b N D=1:=by
 obtain ⟨a,e,ha,he,hae⟩:=aLI
 obtain ⟨⟨j,j1,j2,j3⟩,_⟩:=hb
 exact wI (aKM hae k.pos (Nat.pow_pos (by decide)) (aDU h e (by omega)) (k.within j1 (by omega) (by omega)))
theorem aH6 {s:ByteArray}{q p:Int}{c:Bool}(h:VN s q c) (hp:p <= -324) {N D m:Nat}{x:Int}(k:Frc N D m x) (hb:Bnd m x) (m0:0<m) (b:Bool):oc (frN s p) (frD s p) b N D = -1:=by
 obtain ⟨a,e,ha,he,hae⟩:=aLG
 have N0:0<N:=Nat.pos_of_ne_zero fun z=>by have:=k.zero.1 z;omega
 have lo:=hb.lo
 exact wJ (aKL hae N0 (aDT h e (by omega)) (k.above m0 (by omega)))
theorem aLg {s:ByteArray}{q p p':Int}{c:Bool}(h:VN s q c) (hp:Alk p p') {N D m:Nat}{x:Int}(k:Frc N D m x) (hb:Bnd m x) (b:Bool):oc (frN s p') (frD s p') b N D=oc (frN s p) (frD s p) b N D:=by
 rcases hp with rfl | ⟨h1,h2⟩ | ⟨h1,h2⟩
 . rfl
 . rw [aH5 h h1 k hb,aH5 h h2 k hb]
 . rcases Nat.eq_zero_or_pos m with z | z
   . obtain rfl:=k.zero.2 z
     rw [uP h k.pos,uP h k.pos]
   . rw [aH6 h h1 k hb z,aH6 h h2 k hb z]
theorem bO (s:ByteArray) (p:Int):0<frD s p:=Nat.pow_pos (by decide)
theorem aAG {z:Int}{g n f T:Nat}{L:Int}(hz:Fz z g n f T L) {s:ByteArray}{q p p':Int}{c:Bool}(h:VN s q c) (hp:Alk p p') (c':Bool) {b:Nat}(hb:b<n):Up f L (frN s p') (frD s p') 0 c' b ↔ Up f L (frN s p) (frD s p) 0 c' b:=by
 have k:=aDR (hM f b) (hX f L b)
 rw [wP k k.pos,wP k k.pos,aLg h hp k (xE hz hb)]
theorem aAi {f T:Nat}(hf:0<f) {L:Int}{X Y:Nat}{c:Bool}(X0:X ≠ 0) (Y0:Y ≠ 0) (d:¬ Up f L X Y 0 c (T * 2 ^ f - 1)):rdA f T L X Y 0 c=(T * 2 ^ f,true):=by
 have r:=eQ (f:=f) (L:=L) (e:=0) hf c X0 Y0
 unfold rdA
 rw [if_neg X0,if_neg]
 intro lt
 exact d (r.1.mono (Nat.pos_of_ne_zero Y0) (by omega))
theorem aHp {f T:Nat}(hf:0<f) {L:Int}{X Y r:Nat}{c:Bool}(X0:X ≠ 0) (Y0:Y ≠ 0) (hr:r<=T * 2 ^ f) (lo:r=0 \/ ¬ Up f L X Y 0 c (r - 1)) (hi:r<T * 2 ^ f -> Up f L X Y 0 c r) (h0:0<T * 2 ^ f):rdA f T L X Y 0 c=if r<T * 2 ^ f then (r,false) else (T * 2 ^ f,true):=by
 by_cases q:r<T * 2 ^ f
 . rw [bU hf X0 Y0 ⟨hi q,lo⟩]
 . rw [if_neg q]
   have e:r=T * 2 ^ f:=by omega
   rw [e] at lo
   rcases lo with lo | lo
   . omega
   . exact aAi hf X0 Y0 lo
theorem iA {s:ByteArray}{q p:Int}{c:Bool}(h:VN s q c):frN s p ≠ 0:=Nat.pos_iff_ne_zero.mp (Nat.mul_pos h.val (Nat.pow_pos (by decide)))
theorem aE6 {z:Int}{g n f T:Nat}{L:Int}(hz:Fz z g n f T L) {s:ByteArray}{q p p':Int}{c:Bool}(h:VN s q c) (hp:Alk p p') (c':Bool):rdA f T L (frN s p') (frD s p') 0 c'=rdA f T L (frN s p) (frD s p) 0 c':=by
 obtain ⟨en,_,_,_⟩:=dA hz
 have hf:0<f/\0<n:=by rcases hz with ⟨_,_,rfl,rfl,_,_⟩ | ⟨_,_,rfl,rfl,_,_⟩ <;> decide
 have Y0:=fun x=>Nat.pos_iff_ne_zero.mp (bO s x)
 have r:=eQ (f:=f) (L:=L) (e:=0) hf.1 c' (iA (p:=p) h) (Y0 p)
 generalize rdN f L (frN s p) (frD s p) 0 c'=b at r
 by_cases k:b<n
 . have r':RD f L (frN s p') (frD s p') 0 c' b:=by
    refine ⟨(aAG hz h hp c' k).2 r.1,?_⟩
    rcases r.2 with e | e
    . exact .inl e
    . exact .inr fun u=>e ((aAG hz h hp c' (by omega)).1 u)
   rw [bU hf.1 (iA h) (Y0 p) r,bU hf.1 (iA h) (Y0 p') r']
 . have d:¬ Up f L (frN s p) (frD s p) 0 c' (T * 2 ^ f - 1):=by
    rw [<- en]
    intro u
    rcases r.2 with e | e
    . omega
    . exact e (u.mono (bO _ _) (by omega))
   have d':¬ Up f L (frN s p') (frD s p') 0 c' (T * 2 ^ f - 1):=by
    rw [<- en] at d ⊢
    exact fun u=>d ((aAG hz h hp c' (by omega)).1 u)
   rw [aAi hf.1 (iA h) (Y0 p) d,aAi hf.1 (iA h) (Y0 p') d']
theorem aIR {s:ByteArray}{k:Nat}(hk:k<=s.size) (p:Int):frN (s.extract 0 k) p * frD s p<=frN s p * frD (s.extract 0 k) p:=by
 have es:(s.extract 0 k).size=k:=by rw [ByteArray.size_extract];omega
 have ed:dvA (s.extract 0 k) 0 k=dvA s 0 k:=aGp fun i hi=>by rw [Nat.zero_add];exact aBi hk hi
 unfold frN frD
 rw [es,ed]
 obtain ⟨j,ej⟩:∃ j,s.size=k+j:=⟨s.size - k,by omega⟩
 rw [ej,gK]
 generalize dvA s 0 k=A
 generalize dvA s k j=R
 rw [Nat.mul_assoc,<- Nat.pow_add,Nat.mul_assoc,<- Nat.pow_add,Nat.add_mul,Nat.mul_assoc,<- Nat.pow_add]
 have e:(p - (k:Int)).toNat+(((k+j:Nat):Int) - p).toNat=j+((p - ((k+j:Nat):Int)).toNat+((k:Int) - p).toNat):=by omega
 rw [e]
 exact Nat.le_add_right _ _
theorem aJT {f:Nat}{L:Int}{X Y X' Y' b:Nat}{c:Bool}(Y0:0<Y) (Y0':0<Y') (h:X' * Y<=X * Y') (u:Up f L X Y 0 c b):Up f L X' Y' 0 false b:=by
 have u1:Up f L X Y 0 false b:=by
  rcases u with u | ⟨u1,u2,_⟩
  . exact .inl u
  . exact .inr ⟨u1,u2,rfl⟩
 have u2:Up f L (X * Y') (Y * Y') 0 false b:=(pS Y0 (Nat.mul_pos Y0 Y0') ⟨0,Int.le_refl _,Int.le_refl _,by
  unfold ev
  rw [Nat.mul_comm Y Y',Nat.mul_assoc X Y' Y]⟩ b).1 u1
 have u3:=u2.less h
 exact (pS Y0' (Nat.mul_pos Y0 Y0') ⟨0,Int.le_refl _,Int.le_refl _,by
  unfold ev
  rw [Nat.mul_assoc X' Y Y']⟩ b).2 u3
theorem yK {f T:Nat}(hf:0<f) {L:Int}{X Y X' Y':Nat}{c:Bool}(Y0:0<Y) (Y0':0<Y') (h:X' * Y<=X * Y'):(rdA f T L X' Y' 0 false).1=0 \/ ¬ Up f L X Y 0 c ((rdA f T L X' Y' 0 false).1 - 1):=by
 by_cases z:X'=0
 . left;unfold rdA;rw [if_pos z]
 . have r:=eQ (f:=f) (L:=L) (e:=0) hf false z (Nat.pos_iff_ne_zero.mp Y0')
   have key:∀ b,b<=rdN f L X' Y' 0 false -> b=0 \/ ¬ Up f L X Y 0 c (b - 1):=by
    intro b hb
    rcases Nat.eq_zero_or_pos b with e | e
    . exact .inl e
    . right
      intro u
      rcases r.2 with k | k
      . omega
      . exact k ((aJT Y0 Y0' h u).mono Y0' (by omega))
   unfold rdA
   rw [if_neg z]
   split
   . exact key _ (Nat.le_refl _)
   . exact key _ (by simp only;omega)
theorem aJU {f:Nat}{L:Int}{Y b:Nat}(Y0:0<Y):Up f L 0 Y 0 false b:=by
 have k:=aDR (hM f b) (hX f L b)
 rw [wP k k.pos]
 left
 apply wJ
 rw [Nat.zero_mul]
 exact Nat.mul_pos (Nat.pos_of_ne_zero (aIO k)) Y0
theorem aG0 {z:Int}{g n f T:Nat}{L:Int}(hz:Fz z g n f T L) {s:ByteArray}{p:Int}{c:Bool}(h:VD s p c) {r:Nat}(hr:r<=n) (lo:r=0 \/ ¬ Up f L (frN s (clP p)) (frD s (clP p)) 0 c (r - 1)) (hi:r<n -> Up f L (frN s (clP p)) (frD s (clP p)) 0 c r):nrX f T L s p c=(r,decide (r=n)):=by
 obtain ⟨en,_,_,_⟩:=dA hz
 have hf:0<f/\0<n:=by rcases hz with ⟨_,_,rfl,rfl,_,_⟩ | ⟨_,_,rfl,rfl,_,_⟩ <;> decide
 rcases h with ⟨h0,rfl,rfl⟩ | h
 . have e:frN s (clP 0)=0:=by unfold frN;rw [h0];exact Nat.zero_mul _
   have r0:r=0:=by
    rcases lo with k | k
    . exact k
    . rw [e] at k
      exact absurd (aJU (bO _ _)) k
   unfold nrX
   rw [if_pos h0,r0,decide_eq_false (by omega)]
 . unfold nrX
   rw [if_neg (by have:=h.pos;omega),aE6 hz h (aKd p)]
   rw [aHp (T:=T) (r:=r) hf.1 (iA h) (Nat.pos_iff_ne_zero.mp (bO _ _)) (by omega) lo (by rw [<- en];exact hi) (by omega),<- en]
   by_cases k:r<n
   . rw [if_pos k,decide_eq_false (by omega)]
   . rw [if_neg k,decide_eq_true (by omega),show n=r by omega]
theorem Frc.lim {N D m:Nat}{x:Int}(h:Frc N D m x) (hb:Bnd m x):∃ a b:Nat,D<=2 ^ a/\N<=2 ^ b/\a=1075/\b=2099:=by
 obtain ⟨a,ha⟩:∃ a:Nat,a=1075:=⟨_,rfl⟩
 obtain ⟨b,hb'⟩:∃ b:Nat,b=1024:=⟨_,rfl⟩
 have hD:D<=2 ^ a:=by
  obtain ⟨v,j,rfl,o⟩:=h
  refine Nat.pow_le_pow_right (by decide) ?_
  rcases o with o | o
  . rcases Int.lt_or_le x 0 with c | c
    . have q:=v.at x (by omega) (Int.le_refl _)
      rw [aB] at q
      unfold ev at q
      have lo:=hb.lo
      rcases Nat.lt_or_ge j (0 - x).toNat with y | y
      . omega
      . have w:=(aIM (n:=m) (n':=N) (k:=(0 - x).toNat) (k':=j) (by rw [q];exact Nat.mul_comm _ _) (.inl o) y).2
        omega
    . have q:=v.at 0 (Int.le_refl _) c
      rw [aB] at q
      rcases Nat.eq_zero_or_pos j with y | y
      . omega
      . obtain ⟨i,rfl⟩:∃ i,j=i+1:=⟨j - 1,by omega⟩
        rw [q,Nat.pow_succ,Nat.mul_right_comm] at o
        omega
  . omega
 obtain ⟨⟨k,k1,k2,k3⟩,_⟩:=hb
 have hN:=h.within (a:=b) k1 (by omega) (by omega)
 refine ⟨a,a+b,hD,?_,ha,by omega⟩
 rw [Nat.pow_add]
 exact Nat.le_trans hN (Nat.mul_le_mul_right _ hD)
theorem sF {a b A C K:Nat}(h1:a<=2 ^ A) (h2:b<=2 ^ C) (h:A+C<64 * K):a * b<B ^ K:=by
 have e:B=2 ^ 64:=by decide
 rw [e,<- Nat.pow_mul]
 refine Nat.lt_of_le_of_lt (Nat.mul_le_mul h1 h2) ?_
 rw [<- Nat.pow_add]
 exact Nat.pow_lt_pow_right (by decide) h
theorem oJ (k:Nat):10 ^ k<=2 ^ (4 * k):=by
 rw [Nat.pow_mul]
 exact Nat.pow_le_pow_left (by decide) k
theorem aBp {s:ByteArray}(hs:s.size<=800) (hd:DG s) {p:Int}(h:p<=310):∃ a:Nat,frN s p<=2 ^ a/\a=4440:=by
 obtain ⟨k,hk⟩:∃ k:Nat,k=1110:=⟨_,rfl⟩
 refine ⟨4 * k,Nat.le_trans ?_ (oJ k),by omega⟩
 unfold frN
 refine Nat.le_trans (Nat.mul_le_mul_right _ (Nat.le_of_lt (dN hd 0 s.size))) ?_
 rw [<- Nat.pow_add]
 exact Nat.pow_le_pow_right (by decide) (by omega)
theorem aIH {s:ByteArray}(hs:s.size<=800) {p:Int}(h:-324<=p):∃ a:Nat,frD s p<=2 ^ a/\a=4496:=by
 obtain ⟨k,hk⟩:∃ k:Nat,k=1124:=⟨_,rfl⟩
 refine ⟨4 * k,Nat.le_trans ?_ (oJ k),by omega⟩
 unfold frD
 exact Nat.pow_le_pow_right (by decide) (by omega)
end Go.Proofs.YtejgpbhionadbaaGreatDoor
