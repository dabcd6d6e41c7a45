/-
  Holds: UCrN.
-/
import Derived.Laws.BitsAllLaws
import Derived.Test.YtejgpbhionadbaaGreatDoorChecked
import Derived.Lib.ItoaNum
import Derived.Laws.Externs
import Derived.WalkKit
import Derived.WalkSpells
import Derived.WalkLawsBesides
import Derived.Lib.Mul64
import Derived.Lib.TrailingZeros
import Derived.Deep.OwnRows
import Derived.Laws.CopyOwn
import Derived.BigQuiet
import Derived.Deep.RegionHeld3
import Derived.Deep.LoopGhost
import Derived.Deep.AppendLies
import Derived.Deep.DeepCutAuto
import Derived.Stop.Asserts
import Derived.RowKitTokens
import Derived.Lib.Strings
import Derived.Lib.BufferWrite
import Derived.Lib.ConvBytes
import Derived.Test.YtejgpbhionadbaaGreatDoorRows
import Derived.Test.YtejgpbhionadbaaGreatDoorXl17
set_option maxRecDepth 100000
set_option maxHeartbeats 4000000
namespace Go.Proofs.YtejgpbhionadbaaGreatDoor
open Go.RowKit
structure Bt (mb:Option Nat) (w w':World):Prop where
 os:w'.os=w.os
 tape:w'.tape=w.tape
 output:w'.output=w.output
 size:w.heap.size<=w'.heap.size
 block:∀ k,k<w.heap.size -> mb ≠ some k -> w'.heap[k]?=w.heap[k]?
theorem Bt.refl (mb:Option Nat) (w:World):Bt mb w w:=⟨rfl,rfl,rfl,Nat.le_refl _,fun _ _ _=>rfl⟩
theorem Bt.trans {mb:Option Nat}{u v w:World}(h:Bt mb u v) (k:Bt mb v w):Bt mb u w :=
 ⟨k.os.trans h.os,k.tape.trans h.tape,k.output.trans h.output,Nat.le_trans h.size k.size,fun i hi hn=>(k.block i (Nat.lt_of_lt_of_le hi h.size) hn).trans (h.block i hi hn)⟩
theorem Bt.of {mb:Option Nat}{w w':World}(h:Bl w w'):Bt mb w w':=⟨h.os,h.tape,h.output,h.size,fun k hk _=>h.block k hk⟩
theorem Bt.ofBut {b:Nat}{w w':World}(h:But b w w'):Bt (some b) w w':=⟨h.os,h.tape,h.output,h.size,fun k hk hn=>h.block k hk fun e=>hn (by rw [e])⟩
theorem Bt.but {b:Nat}{w w':World}(h:Bt (some b) w w'):But b w w':=⟨h.os,h.tape,h.output,h.size,fun k hk hn=>h.block k hk fun e=>hn (by injection e with e;exact e.symm)⟩
theorem Bt.none {w w':World}(h:Bt none w w'):Bl w w':=⟨h.os,h.tape,h.output,h.size,fun k hk=>h.block k hk (by simp)⟩
theorem Bt.cell {mb:Option Nat}{w w':World}(h:Bt mb w w') {p:Addr}(hp:p.block<w.heap.size) (hn:mb ≠ some p.block):w'.cell? p=w.cell? p:=World.cell?_of_block (w:=w) (h.block p.block hp hn)
theorem Bt.frozen {mb:Option Nat}{w w':World}(h:Bt mb w w') {p:Addr}(hp:p.block<w.heap.size) (hn:mb ≠ some p.block):w'.frozen? p=w.frozen? p:=World.frozen?_of_block (w:=w) (h.block p.block hp hn)
def Frm (mb:Option Nat) (w0 w:World):Prop:=Bl w0 w/\∀ b,mb=some b -> w0.heap.size<=b
theorem Frm.bt {mb:Option Nat}{w0 w w':World}(h:Frm mb w0 w) (k:Bt mb w w'):Frm mb w0 w' :=
 ⟨h.1.trans ⟨k.os,k.tape,k.output,k.size,fun i hi=>k.block i (Nat.lt_of_lt_of_le hi h.1.size) fun e=>by have:=h.2 i e;omega⟩,h.2⟩
theorem Frm.below {mb:Option Nat}{w0 w w':World}(h:Frm mb w0 w) (k:Bl w w'):Frm mb w0 w':=h.bt (Bt.of k)
theorem Frm.tab {mb:Option Nat}{w0 w:World}(h:Frm mb w0 w) (t:Tab w0):Tab w:=t.next h.1
def NoU (w:World) (K:Nat):Prop:=∀ o (z:Int),w.cell? ⟨K,o,none⟩ ≠ some (vU z)
theorem MS.nou {W:World}{b:Nat}{l p e t s:Int}(h:MS W b l p e t s):NoU W b:=by
 intro o z
 rcases Nat.lt_or_ge o 5 with k | k
 . have:o=0 \/ o=1 \/ o=2 \/ o=3 \/ o=4:=by omega
   rcases this with rfl | rfl | rfl | rfl | rfl
   . rw [h.c0];simp
   . rw [h.c1];simp
   . rw [h.c2];simp
   . rw [h.c3];simp
   . rw [h.c4];simp
 . rw [h.up o k];simp
theorem NatV.kept {W W':World}{v:Value}{X K:Nat}(h:NatV W v X) (nu:NoU W K) (sz:W.heap.size<=W'.heap.size) (hk:∀ k,k<W.heap.size -> k ≠ K -> W'.heap[k]?=W.heap[k]?):NatV W' v X:=by
 obtain ⟨ao,n,c,b,o,f,rfl,S,t,hX,hn⟩:=h
 have hbK:0<n -> b ≠ K:=fun h0 e=>nu (o+0) _ (e ▸ S.cell 0 h0)
 exact ⟨ao,n,c,b,o,f,rfl,⟨S.le,S.cap,S.addr,fun h=>Nat.lt_of_lt_of_le (S.blk h) sz,fun i hi=>(World.cell?_of_block (w:=W) (a:=⟨b,o+i,none⟩) (hk b (S.blk (by omega)) (hbK (by omega)))).trans (S.cell i hi),S.ws⟩,t,hX,hn⟩
theorem NatV.set {W:World}{v:Value}{X K:Nat}(h:NatV W v X) (nu:NoU W K) (o:Nat) (u:Value):NatV (W.setCell ⟨K,o,none⟩ u) v X :=
 h.kept nu (by simp) fun k _ hn=>Below.heap_setCell _ _ _ _ hn
def mqV:Option Nat -> Value
 | none=>.pointer none
 | some b=>mV b
def Mq:Option Nat -> Int -> Int -> World -> Int -> Int -> Prop
 | none,_,_,_,l,_=>l=0
 | some b,e,t,W,l,s=>∃ p,0<=p/\p<=1024/\MS W b l p e t s
theorem Mq.step {mb : Option Nat} {e t l s : Int} {W W' : World} (h : Mq mb e t W l s) (hb : Below W.heap.size W W') : Mq mb e t W' l s := by
  cases mb with
  | none => exact h
  | some b =>
    obtain ⟨p, p0, p1, m⟩ := h
    exact ⟨p, p0, p1, m.step hb⟩
theorem Mq.lt {mb : Option Nat} {e t l s : Int} {W : World} (h : Mq mb e t W l s) : mb ≠ some W.heap.size := by
  cases mb with
  | none => simp
  | some b =>
    obtain ⟨p, p0, p1, m⟩ := h
    have := m.lt
    intro z
    injection z with z
    omega
theorem Mq.nat {mb : Option Nat} {e t l s : Int} {W W' : World} (h : Mq mb e t W l s) {v : Value} {X : Nat} (n : NatV W v X) (hb : Bt mb W W') : NatV W' v X := by
  cases mb with
  | none => exact n.below hb.none
  | some b =>
    obtain ⟨p, p0, p1, m⟩ := h
    exact n.kept m.nou hb.size hb.but.block
theorem Mq.alloc {mb:Option Nat}{e t l s:Int}{W:World}(h:Mq mb e t W l s) (o:Obj):Mq mb e t (W.alloc o) l s:=h.step (bz _ _)
theorem mG     {mb : Option Nat} {e t l s : Int} {W : World} (h : Mq mb e t W l s) : Calls Tryz.prog 116 #[mqV mb] W fun x W' => x = .returned (.int .i64 l) ∧ Below W.heap.size W W' := by
  cases mb with
  | none =>
    have h' : l = 0 := h
    subst h'
    exact aEt       W
  | some b =>
    obtain ⟨p, p0, p1, m⟩ := h
    exact aI0     W m
theorem aLD    {mb : Option Nat} {e t l s n : Int} {W : World} (h : Mq mb e t W l s) (l0 : 0 ≤ l) (n0 : 0 ≤ n) (l1 : l + n ≤ 1024) : Calls Tryz.prog 242 #[mqV mb, .int .i64 n] W fun x W' => ∃ l', x = .returned (.tuple #[]) ∧ Bt mb W W' ∧ l ≤ l' ∧ l' ≤ l + n ∧ Mq mb e t W' l' s := by
  cases mb with
  | none =>
    refine (aFx       n W).mono ?_
    rintro x w1 ⟨rfl, rfl⟩
    exact ⟨l, rfl, Bt.refl _ _, Int.le_refl _, by omega, h⟩
  | some b =>
    obtain ⟨p, p0, p1, m⟩ := h
    refine (aJQ     l0 (by omega) W m).mono ?_
    rintro x w1 ⟨rfl, b1, m1⟩
    have e1 : bQ    l n = l + n := by
      unfold bQ
      split
      · omega
      · split <;> omega
    rw [e1] at m1
    refine ⟨l + n, rfl, Bt.ofBut b1, by omega, Int.le_refl _, _, ?_, ?_, m1⟩
    · unfold mx3; omega
    · unfold mx3; omega
theorem aKU    {mb : Option Nat} {e t l s k : Int} {W : World} (h : Mq mb e t W l s) (l1 : l ≤ 1024) (k0 : 0 ≤ k) (k1 : k ≤ l) : Calls Tryz.prog 156 #[mqV mb, .int .i64 (l - k)] W fun x W' => x = .returned (.tuple #[]) ∧ Bt mb W W' ∧ Mq mb e t W' k s := by
  cases mb with
  | none =>
    have h' : l = 0 := h
    refine (aDX       (l - k) W).mono ?_
    rintro x w1 ⟨rfl, rfl⟩
    refine ⟨rfl, Bt.refl _ _, ?_⟩
    show k = 0
    omega
  | some b =>
    obtain ⟨p, p0, p1, m⟩ := h
    refine (aIN     (by omega) (by omega) (by omega) W m).mono ?_
    rintro x w1 ⟨rfl, b1, m1⟩
    have e1 : wH    l (l - k) = k := by
      unfold wH
      split <;> omega
    rw [e1] at m1
    exact ⟨rfl, Bt.ofBut b1, p, p0, p1, m1⟩
theorem aJP {b:Nat}{l p e t s:Int}(s0:0<=s) (w:World) (h:MS w b l p e t s) :
 Calls Tryz.prog 79 #[mV b,vI 3] w fun x w'=>x=.returned (.tuple #[])/\But b w w'/\MS w' b l p e t (bQ s 1):=by
 have R:=fun W=>aBM b 3 W
 have M0:Hid (MS w b l p e t s):=h
 obtain ⟨lt,c0,c1,c2,c3,c4,fr,_⟩:=h
 unfold mV wM at *
 rw [if_neg (by decide),if_neg (by decide),if_pos rfl] at R
 have M:=fun W=>iF s0 (show (1:Int)<=9223372036854775807 by decide) W
 generalize bQ s 1=y at *
 clear s0
 go_enter Tryz.func79,Tryz.ntmps79
 go_wp2_with fail
 refine (R _).mono ?_
 rintro x w1 ⟨rfl,rfl⟩
 go_wp2_with fail
 refine (M _).mono ?_
 rintro x w1 ⟨rfl,rfl⟩
 go_wp2
 exact bodyPost_end (v:=.tuple #[]) (results_none Tryz.results79 _ _ _) rfl ⟨rfl,But.set b _ 4 _,M0.out.set4 y⟩
theorem aLz    {mb : Option Nat} {e t l s : Int} {W : World} (h : Mq mb e t W l s) (s0 : 0 ≤ s) (s1 : s ≤ 100) : Calls Tryz.prog 79 #[mqV mb, .int .i64 3] W fun x W' => x = .returned (.tuple #[]) ∧ Bt mb W W' ∧ Mq mb e t W' l (s + 1) := by
  cases mb with
  | none =>
    refine (tD        3 W).mono ?_
    rintro x w1 ⟨rfl, rfl⟩
    exact ⟨rfl, Bt.refl _ _, h⟩
  | some b =>
    obtain ⟨p, p0, p1, m⟩ := h
    refine (aJP     s0 W m).mono ?_
    rintro x w1 ⟨rfl, b1, m1⟩
    have e1 : bQ    s 1 = s + 1 := by
      unfold bQ
      rw [if_neg (by omega), if_neg (by omega)]
    rw [e1] at m1
    exact ⟨rfl, Bt.ofBut b1, p, p0, p1, m1⟩
structure WkB (mb:Option Nat) (W:World) (K:Nat) (a b c:Value):Prop where
 lt:K<W.heap.size
 a0:W.cell? ⟨K,0,none⟩=some (mqV mb)
 a1:W.cell? ⟨K,1,none⟩=some a
 a2:W.cell? ⟨K,2,none⟩=some b
 a3:W.cell? ⟨K,3,none⟩=some c
 fr:∀ o,W.frozen? ⟨K,o,none⟩=false
 nu:NoU W K
 ne:mb ≠ some K
theorem WkB.bt {mb:Option Nat}{W W':World}{K:Nat}{a b c:Value}(h:WkB mb W K a b c) (hb:Bt mb W W'):WkB mb W' K a b c:=by
 have k:=fun o=>hb.cell (p:=⟨K,o,none⟩) h.lt h.ne
 have j:=fun o=>hb.frozen (p:=⟨K,o,none⟩) h.lt h.ne
 exact ⟨Nat.lt_of_lt_of_le h.lt hb.size,(k 0).trans h.a0,(k 1).trans h.a1,(k 2).trans h.a2,(k 3).trans h.a3,fun o=>(j o).trans (h.fr o),fun o z=>by rw [k o];exact h.nu o z,h.ne⟩
theorem WkB.step {mb:Option Nat}{W W':World}{K:Nat}{a b c:Value}(h:WkB mb W K a b c) (hb:Bl W W'):WkB mb W' K a b c:=h.bt (Bt.of hb)
theorem WkB.alloc {mb:Option Nat}{W:World}{K:Nat}{a b c:Value}(h:WkB mb W K a b c) (o:Obj):WkB mb (W.alloc o) K a b c:=h.step (bz _ _)
theorem aDS (w:World) (a b c d:Value) (T:TypeId) {o:Nat}(h:4<=o):(w.alloc (.cells #[a,b,c,d] T)).cell? ⟨w.heap.size,o,none⟩=none:=by
 obtain ⟨k,rfl⟩:∃ k,o=k+4:=⟨o - 4,by omega⟩
 simp
theorem aI4 (mb:Option Nat) (z:Int):mqV mb ≠ vU z:=by
 cases mb <;> simp [mqV,mV]
theorem WkB.new {mb:Option Nat}(W:World) (T:TypeId) (ne:mb ≠ some W.heap.size):WkB mb (W.alloc (.cells #[mqV mb,.slice none 0 0,.slice none 0 0,.bool false] T)) W.heap.size (.slice none 0 0) (.slice none 0 0) (.bool false):=by
 refine ⟨by simp,by simp,by simp,by simp,by simp,fun o=>World.frozen?_alloc_new _ _ _ _,?_,ne⟩
 intro o z
 rcases Nat.lt_or_ge o 4 with k | k
 . have:o=0 \/ o=1 \/ o=2 \/ o=3:=by omega
   rcases this with rfl | rfl | rfl | rfl
   . simp;exact aI4 mb z
   . simp
   . simp
   . simp
 . rw [aDS _ _ _ _ _ _ k];simp
theorem sO {W:World}{K i:Nat}{v:Value}(h:NoU W K) (hv:∀ z,v ≠ vU z) {x:Value}(hx:W.cell? ⟨K,i,none⟩=some x):NoU (W.setCell ⟨K,i,none⟩ v) K:=by
 intro o z
 by_cases e:o=i
 . subst e
   rw [MS.same hx]
   intro q
   injection q with q
   exact hv z q
 . rw [MS.oth v e]
   exact h o z
theorem WkB.set1 {mb:Option Nat}{W:World}{K:Nat}{a b c:Value}(h:WkB mb W K a b c) {v:Value}(hv:∀ z,v ≠ vU z):WkB mb (W.setCell ⟨K,1,none⟩ v) K v b c :=
 ⟨by simpa using h.lt,(MS.oth _ (by omega)).trans h.a0,MS.same h.a1,(MS.oth _ (by omega)).trans h.a2,(MS.oth _ (by omega)).trans h.a3,fun o=>by rw [World.frozen?_setCell];exact h.fr o,sO h.nu hv h.a1,h.ne⟩
theorem WkB.set2 {mb:Option Nat}{W:World}{K:Nat}{a b c:Value}(h:WkB mb W K a b c) {v:Value}(hv:∀ z,v ≠ vU z):WkB mb (W.setCell ⟨K,2,none⟩ v) K a v c :=
 ⟨by simpa using h.lt,(MS.oth _ (by omega)).trans h.a0,(MS.oth _ (by omega)).trans h.a1,MS.same h.a2,(MS.oth _ (by omega)).trans h.a3,fun o=>by rw [World.frozen?_setCell];exact h.fr o,sO h.nu hv h.a2,h.ne⟩
theorem WkB.set3 {mb:Option Nat}{W:World}{K:Nat}{a b c:Value}(h:WkB mb W K a b c) {v:Value}(hv:∀ z,v ≠ vU z):WkB mb (W.setCell ⟨K,3,none⟩ v) K a b v :=
 ⟨by simpa using h.lt,(MS.oth _ (by omega)).trans h.a0,(MS.oth _ (by omega)).trans h.a1,(MS.oth _ (by omega)).trans h.a2,MS.same h.a3,fun o=>by rw [World.frozen?_setCell];exact h.fr o,sO h.nu hv h.a3,h.ne⟩
theorem Mq.far {mb : Option Nat} {e t l s : Int} {W : World} (h : Mq mb e t W l s) {K : Nat} (hn : mb ≠ some K) (o : Nat) (v : Value) : Mq mb e t (W.setCell ⟨K, o, none⟩ v) l s := by
  cases mb with
  | none => exact h
  | some b =>
    obtain ⟨p, p0, p1, m⟩ := h
    have ne : b ≠ K := fun z => hn (by rw [z])
    have e1 : (W.setCell ⟨K, o, none⟩ v).heap[b]? = W.heap[b]? := Below.heap_setCell W ⟨K, o, none⟩ v b ne
    have k := fun q => World.cell?_of_block (w := W) (w' := W.setCell ⟨K, o, none⟩ v) (a := ⟨b, q, none⟩) e1
    have j := fun q => World.frozen?_of_block (w := W) (w' := W.setCell ⟨K, o, none⟩ v) (a := ⟨b, q, none⟩) e1
    exact ⟨p, p0, p1, by simpa using m.lt, (k 0).trans m.c0, (k 1).trans m.c1, (k 2).trans m.c2, (k 3).trans m.c3, (k 4).trans m.c4, fun q => (j q).trans (m.fr q), fun q hq => (k q).trans (m.up q hq)⟩
structure Rw4 (W:World) (R:Nat):Prop where
 lt:R<W.heap.size
 cell:∀ i,i<4 -> ∃ (ao:Option Addr) (m c:Nat),W.cell? ⟨R,i,none⟩=some (.slice ao m c)/\m<=128
theorem Rw4.new {W W':World}{v0 v1 v2 v3:Value}{X0 X1 X2 X3:Nat}(h0:NatV W v0 X0) (h1:NatV W v1 X1) (h2:NatV W v2 X2) (h3:NatV W v3 X3) (T:TypeId) (e:W'=W.alloc (.cells #[v0,v1,v2,v3] T)):Rw4 W' W.heap.size:=by
 subst e
 obtain ⟨a0,n0,c0,_,_,_,rfl,_,_,_,l0⟩:=h0
 obtain ⟨a1,n1,c1,_,_,_,rfl,_,_,_,l1⟩:=h1
 obtain ⟨a2,n2,c2,_,_,_,rfl,_,_,_,l2⟩:=h2
 obtain ⟨a3,n3,c3,_,_,_,rfl,_,_,_,l3⟩:=h3
 refine ⟨by simp,fun i hi=>?_⟩
 have:i=0 \/ i=1 \/ i=2 \/ i=3:=by omega
 rcases this with rfl | rfl | rfl | rfl
 . exact ⟨a0,n0,c0,by simp,l0⟩
 . exact ⟨a1,n1,c1,by simp,l1⟩
 . exact ⟨a2,n2,c2,by simp,l2⟩
 . exact ⟨a3,n3,c3,by simp,l3⟩
theorem oI {mb:Option Nat}{e t l s:Int}{W:World}{K R:Nat}{a b c:Value}(kk:WkB mb W K a b c) (m:Mq mb e t W l s) (r:Rw4 W R) (rn:mb ≠ some R) (l0:0<=l) (l1:l<=512) :
 Calls Tryz.prog 200 #[.pointer (some ⟨K,0,none⟩),.slice (some ⟨R,0,none⟩) 4 4] W fun x W'=>∃ l',x=.returned (.tuple #[])/\Bt mb W W'/\l<=l'/\l'<=l+512/\Mq mb e t W' l' s:=by
 have HK:Hid (WkB mb W K a b c/\Mq mb e t W l s/\Rw4 W R/\mb ≠ some R/\0<=l/\l<=512):=⟨kk,m,r,rn,l0,l1⟩
 clear kk m r rn l0 l1
 go_enter Tryz.func200,Tryz.ntmps200
 go_wp2
 go_loopw [8] (fun i wr=>∃ (k:Nat),i=vI (k:Int)/\k<=4/\Hid (∃ lv:Int,Bt mb W wr/\l<=lv/\lv<=l+128 * (k:Int)/\Mq mb e t wr lv s)) (fun i _=>4 - (intOf i).toNat)
 case atStart=>exact ⟨0,rfl,by decide,⟨l,Bt.refl _ _,Int.le_refl _,by omega,HK.out.2.1⟩⟩
 case round =>
  obtain ⟨k,rfl,hk,H⟩:=hrel
  obtain ⟨lv,b1,q1,q2,m1⟩:=H.out
  have H1:Hid (Bt mb W wr/\l<=lv/\lv<=l+128 * (k:Int)/\Mq mb e t wr lv s):=⟨b1,q1,q2,m1⟩
  clear H b1 q1 q2 m1
  by_cases c1:k<4
  . obtain ⟨ao,n,cc,hc0,hn⟩:=HK.out.2.2.1.cell k c1
    have hc:wr.cell? ⟨R,k,none⟩=some (.slice ao n cc):=(H1.out.1.cell (p:=⟨R,k,none⟩) HK.out.2.2.1.lt HK.out.2.2.2.1).trans hc0
    have ha:=(HK.out.1.bt H1.out.1).a0
    have ik0:(0:Int)<=(k:Int):=by omega
    have ik1:(k:Int)<4:=by omega
    have HN:Hid (n<=128/\k<4):=⟨hn,c1⟩
    have T:=aLD (n:=(n:Int)) H1.out.2.2.2 (by have:=H1.out;have:=HK.out.2.2.2.2;omega) (by omega) (by have:=H1.out;have:=HK.out.2.2.2.2;have:=HN.out;omega)
    have wk:IntKind.i64.wrap ((k:Int)+1)=(k:Int)+1:=by
     unfold IntKind.wrap
     simp [IntKind.bits,IntKind.signed]
     omega
    clear hc0 hn
    go_wp2_with fail
    refine T.mono ?_
    rintro x w1 ⟨lw,rfl,b1,q1,q2,m1⟩
    have H2:Hid (∃ lv:Int,Bt mb W w1/\l<=lv/\lv<=l+128 * ((k+1:Nat):Int)/\Mq mb e t w1 lv s):=⟨lw,H1.out.1.trans b1,by have:=H1.out;omega,by have:=H1.out;have:=HN.out;omega,m1⟩
    clear b1 q1 q2 m1 T H1
    go_wp2
    go_roundw
    case rel=>exact ⟨k+1,by go_num,by omega,H2⟩
    case measure=>simp [intOf];omega
  . obtain rfl:k=4:=by omega
    go_wp2
    obtain ⟨b1,q1,q2,m1⟩:=H1.out
    exact bodyPost_end (v:=.tuple #[]) (results_none Tryz.results200 _ _ _) rfl ⟨lv,rfl,b1,q1,by omega,m1⟩
theorem nW {mb:Option Nat}{e t l s k:Int}{W:World}{K:Nat}{a b c:Value}(kk:WkB mb W K a b c) (m:Mq mb e t W l s) (l1:l<=1024) (k0:0<=k) (k1:k<=l) (u:FrameMode) :
 CallsD Tryz.prog 115 #[.pointer (some ⟨K,0,none⟩),vI k] u W fun x u' W'=>u'=u/\(x=.returned (.tuple #[])/\Bt mb W W'/\Mq mb e t W' k s):=by
 have HK:Hid (WkB mb W K a b c/\Mq mb e t W l s/\l<=1024/\0<=k/\k<=l):=⟨kk,m,l1,k0,k1⟩
 have wk:IntKind.i64.wrap (l - k)=l - k:=by
  unfold IntKind.wrap
  simp [IntKind.bits,IntKind.signed]
  omega
 have M0:Hid (Mq mb e t W.drew l s):=m.step (Below.refl W.heap.size W).drew
 have ha:=kk.a0
 clear kk m l1 k0 k1
 go_enter_d Tryz.func115,Tryz.ntmps115
 go_wp2_with fail
 go_region_held3 (fun w'=>w'.cell? ⟨K,0,none⟩=some (mqV mb)) (simp [*,go_sem])
  (first
   | (go_at_call 116;refine (mG M0.out).mono ?_;rintro x w1 ⟨rfl,b1⟩;have H1:Hid (Bl W w1):=(Below.refl W.heap.size W).drew.trans b1;have GV:=aKU (HK.out.2.1.step H1.out) HK.out.2.2.1 HK.out.2.2.2.1 HK.out.2.2.2.2;have ha1:=(HK.out.1.step H1.out).a0)
   | (go_at_call 156;refine GV.mono ?_;rintro x w2 ⟨rfl,b2,m2⟩;have H2:Hid (Bt mb W w2/\Mq mb e t w2 k s):=⟨(Bt.of H1.out).trans b2,m2⟩;have ha2:=(HK.out.1.bt H2.out.1).a0))
 go_wp2
 exact bodyPost_end (v:=.tuple #[]) (results_none Tryz.results115 _ _ _) rfl ⟨rfl,H2.out.1,H2.out.2⟩
end Go.Proofs.YtejgpbhionadbaaGreatDoor
