/-
  Holds: UScG UScV UScXh UScU.
-/
import Derived.Test.YtejgpbhionadbaaGreatDoorChecked
import Derived.WalkKit
import Derived.Deep.DeepMust
import Derived.Lib.Strings
import Derived.Lib.BufferWrite
import Derived.Deep.OwnRows
import Derived.Deep.RegionHeld3
import Derived.Deep.QuietTactic
import Derived.BigQuiet
import Derived.Deep.AppendLies
import Derived.Lib.ConvBytes
import Derived.Test.YtejgpbhionadbaaGreatDoorShelf
import Derived.Test.YtejgpbhionadbaaGreatDoorXl29
import Derived.Test.YtejgpbhionadbaaGreatDoorXl31
set_option maxRecDepth 100000
set_option maxHeartbeats 4000000
namespace Go.Proofs.YtejgpbhionadbaaGreatDoor
open Go.RowKit
def kV:Option (Pt × Nat) -> Value
 | none=>.tuple #[.agg #[.bool false,vI 0,.string ⟨#[]⟩,vI 0,.bool false,vU 0,vI 0,.bool false],vI 0]
 | some (p,n)=>.tuple #[spV p,vI (n:Int)]
def aC:Array Value:=#[.bool false,vI 0,.string ⟨#[]⟩,vI 0,.bool false,vU 0,vI 0,.bool false]
structure KW (w wr:World) (A B:ByteArray):Prop where
 bel:Bl w wr
 sz:w.heap.size+1<wr.heap.size
 a0:wr.cell? ⟨w.heap.size,0,none⟩=some (.string A)
 a1:wr.cell? ⟨w.heap.size,1,none⟩=some (.string B)
 r:∀ o,wr.cell? ⟨w.heap.size+1,o,none⟩=aC[o]?
 fr:∀ o,wr.frozen? ⟨w.heap.size+1,o,none⟩=false
theorem KW.start (w:World) (A B:ByteArray):KW w ((w.alloc (.cells #[.string A,.string B] 138)).alloc (.cells aC 43)) A B:=by
 refine ⟨(bz _ _).alloc (by simp) _,by simp,by simp [go_sem],by simp [go_sem],fun o=>?_,fun o=>?_⟩
 . rw [World.cell?_alloc_at _ _ _ _ (by simp)]
 . simp [go_sem]
theorem KW.step {w wr w2:World}{A B:ByteArray}(h:KW w wr A B) (hb:Bl wr w2):KW w w2 A B:=by
 have s:=h.sz
 exact ⟨h.bel.trans (hb.mono (by omega)),by have:=hb.size;omega,(hb.cell (p:=⟨w.heap.size,0,none⟩) (by show w.heap.size<_;omega)).trans h.a0,(hb.cell (p:=⟨w.heap.size,1,none⟩) (by show w.heap.size<_;omega)).trans h.a1,
  fun o=>(hb.cell (p:=⟨w.heap.size+1,o,none⟩) (by show w.heap.size+1<_;omega)).trans (h.r o),fun o=>(hb.frozen (p:=⟨w.heap.size+1,o,none⟩) (by show w.heap.size+1<_;omega)).trans (h.fr o)⟩
theorem bC {w:World}{o:Nat}:w.heap.size<=(⟨w.heap.size+1,o,none⟩:Addr).block:=by show w.heap.size<=w.heap.size+1;omega
theorem aI5     (g r : List UInt8) (hg : g.length ≤ 1) (hl : r.length ≤ 140737488351256) (w : World) : Calls Tryz.prog 70 #[.agg #[.string (sB g), .string (sB r)]] w fun e w' => e = .returned (kV (bK   (decide (0 < g.length)) r)) ∧ Below w.heap.size w w' := by
  have K0 := KW.start w (sB g) (sB r)
  have BG : ∀ W, Calls Tryz.prog 94 #[.string (sB r), .string ⟨#[110, 97, 110]⟩] W fun e w' => e = .returned (.bool (wdB jF   r)) ∧ Below W.heap.size W w' := fun W => kA         (sB r) ⟨#[110, 97, 110]⟩ hl W
  by_cases h : 0 < g.length
  · have e0 : (sB g).toList.isEmpty = false := aI          h
    have HV : Hid (kV (bK   (decide (0 < g.length)) r) = .tuple #[.agg aC   , .int .i64 0]) := by
      show _ = _
      unfold bK  ; rw [decide_eq_true h, if_neg (fun z => by cases z.1)]; rfl
    rw [HV.out]
    clear HV BG K0 hl hg h
    generalize sB g = A at *
    generalize sB r = B at *
    unfold aC
    go_enter Tryz.func70, Tryz.ntmps70
    go_wp2
    refine bodyPost_ret (v := .tuple #[.agg #[.bool false, .int .i64 0, .string ⟨#[]⟩, .int .i64 0, .bool false, .int .u64 0, .int .i64 0, .bool false], .int .i64 0]) (by simp [results, Tryz.results70, go_sem]) rfl ⟨rfl, ?_⟩
    exact ((Below.refl _ _).alloc (Nat.le_refl _) _).alloc (by simp) _
  · have e0 : (sB g).toList.isEmpty = true := by rw [oY      ]; cases g with
      | nil => rfl
      | cons c r => simp at h
    cases q : wdB jF   r with
    | false =>
      rw [q] at BG
      have HV : Hid (kV (bK   (decide (0 < g.length)) r) = .tuple #[.agg aC   , .int .i64 0]) := by
        show _ = _
        unfold bK  ; rw [if_neg (fun z => by rw [q] at z; cases z.2)]; rfl
      rw [HV.out]
      have HK0 : Hid (KW w ((w.alloc (.cells #[.string (sB g), .string (sB r)] 138)).alloc (.cells aC    43)) (sB g) (sB r)) := K0
      clear HV K0 hl hg h q
      generalize sB g = A at *
      generalize sB r = B at *
      unfold aC    at HK0 ⊢
      go_enter Tryz.func70, Tryz.ntmps70
      go_wp2_with fail
      refine (BG _).mono ?_
      rintro e w1 ⟨rfl, b1⟩
      have HK1 : Hid (KW w w1 A B) := HK0.out.step b1
      clear b1 HK0
      obtain ⟨_, sz, a0, a1, rr, fr⟩ := HK1.out
      have r0 := rr 0
      have r1 := rr 1
      have r2 := rr 2
      have r3 := rr 3
      have r4 := rr 4
      have r5 := rr 5
      have r6 := rr 6
      have r7 := rr 7
      simp only [aC   ] at r0 r1 r2 r3 r4 r5 r6 r7
      clear rr
      go_wp2
      refine bodyPost_ret (v := .tuple #[.agg #[.bool false, .int .i64 0, .string ⟨#[]⟩, .int .i64 0, .bool false, .int .u64 0, .int .i64 0, .bool false], .int .i64 0]) (by simp [results, Tryz.results70, go_sem, *]) rfl ⟨rfl, ?_⟩
      repeat (refine Below.setCell ?_ bC     _)
      exact HK1.out.bel
    | true =>
      rw [q] at BG
      have HV : Hid (kV (bK   (decide (0 < g.length)) r) = .tuple #[.agg #[.bool false, .int .i64 4, .string ⟨#[]⟩, .int .i64 0, .bool false, .int .u64 0, .int .i64 0, .bool false], .int .i64 3]) := by
        show _ = _
        unfold bK  ; rw [if_pos ⟨decide_eq_false h, q⟩]; rfl
      rw [HV.out]
      have HK0 : Hid (KW w ((w.alloc (.cells #[.string (sB g), .string (sB r)] 138)).alloc (.cells aC    43)) (sB g) (sB r)) := K0
      clear HV K0 hl hg h q
      generalize sB g = A at *
      generalize sB r = B at *
      unfold aC    at HK0
      go_enter Tryz.func70, Tryz.ntmps70
      go_wp2_with fail
      refine (BG _).mono ?_
      rintro e w1 ⟨rfl, b1⟩
      have HK1 : Hid (KW w w1 A B) := HK0.out.step b1
      clear b1 HK0
      obtain ⟨_, sz, a0, a1, rr, fr⟩ := HK1.out
      have r0 := rr 0
      have r1 := rr 1
      have r2 := rr 2
      have r3 := rr 3
      have r4 := rr 4
      have r5 := rr 5
      have r6 := rr 6
      have r7 := rr 7
      simp only [aC   ] at r0 r1 r2 r3 r4 r5 r6 r7
      clear rr
      go_wp2
      refine bodyPost_ret (v := .tuple #[.agg #[.bool false, .int .i64 4, .string ⟨#[]⟩, .int .i64 0, .bool false, .int .u64 0, .int .i64 0, .bool false], .int .i64 3]) (by simp [results, Tryz.results70, go_sem, *]) rfl ⟨rfl, ?_⟩
      repeat (refine Below.setCell ?_ bC     _)
      exact HK1.out.bel
theorem oD {b:Nat}{j:Bool}{l W P:List UInt8}{n:Nat}(h:mnt b j l=some (W,P,n)):∀ c ∈ W ++ P,isD b c=true:=by
 unfold mnt at h
 intro c hc
 have k:∀ X Y:List UInt8,X=W -> Y=P -> (∀ c ∈ X,isD b c=true) -> (∀ c ∈ Y,isD b c=true) -> isD b c=true:=by
  intro X Y e1 e2 k1 k2
  rw [<- e1,<- e2] at hc
  rcases List.mem_append.1 hc with z | z
  . exact k1 c z
  . exact k2 c z
 by_cases a:hdC (l.drop (rch b j l))=46
 . rw [if_pos a] at h
   by_cases d:rch b j l+rch b false (l.drop (rch b j l+1))=0
   . rw [if_pos d] at h;cases h
   . rw [if_neg d] at h
     injection h with h;injection h with e1 h;injection h with e2 h
     exact k _ _ e1 e2 (fun c hc=>fI _ _ _ hc) (fun c hc=>fI _ _ _ hc)
 . rw [if_neg a] at h
   by_cases d:rch b j l=0
   . rw [if_pos d] at h;cases h
   . rw [if_neg d] at h
     injection h with h;injection h with e1 h;injection h with e2 h
     exact k _ _ e1 e2 (fun c hc=>fI _ _ _ hc) (fun c hc=>by cases hc)
def exO (x:Option (Int × Nat)):Int × Nat:=match x with
 | none=>(0,0)
 | some y=>y
theorem aCc (x:Option (Int × Nat)):aAx x=.tuple #[vI (exO x).1,vI ((exO x).2:Int)]:=by cases x <;> rfl
theorem mC {r W P:List UInt8}{n:Nat}(h:mnt 10 false r=some (W,P,n)):cB r=some (pB W P (exO (exn 101 (r.drop n))).1,n+(exO (exn 101 (r.drop n))).2):=by
 unfold cB
 rw [h]
 show (match exn 101 (r.drop n) with | none=>some (pB W P 0,n) | some (e,m)=>some (pB W P e,n+m))=_
 cases exn 101 (r.drop n) with
 | none=>rfl
 | some x=>rfl
theorem uB {r:List UInt8}(h:mnt 10 false r=none):cB r=none:=by unfold cB;rw [h]
theorem aKJ {L:Nat}{l:List UInt8}:(exO (exn L l)).2<=l.length:=by
 cases h:exn L l with
 | none=>exact Nat.zero_le _
 | some x=>obtain ⟨e,m⟩:=x;exact (gL h).2.1
theorem aAw          (g r : List UInt8) (hl : r.length ≤ 140737488351256) (w : World) : Calls Tryz.prog 72 #[.agg #[.string (sB g), .string (sB r)]] w fun e w' => e = .returned (kV (cB   r)) ∧ Below w.heap.size w w' := by
  have K0 := KW.start w (sB g) (sB r)
  have RW : ∀ W, Calls Tryz.prog 97 #[.string (sB r), .int .i64 10] W fun e w' => e = .returned (rwV (mnt 10 false r)) ∧ Below W.heap.size W w' := fun W => pL       r hl 10 (by omega) (by omega) W
  have HK0 : Hid (KW w ((w.alloc (.cells #[.string (sB g), .string (sB r)] 138)).alloc (.cells aC    43)) (sB g) (sB r)) := K0
  unfold aC    at HK0
  clear K0
  cases q : mnt 10 false r with
  | none =>
    rw [uB        q]
    rw [q] at RW
    have RW2 : ∀ W, Calls Tryz.prog 97 #[.string (sB r), .int .i64 10] W fun e w' => e = .returned (.tuple #[.string ⟨#[]⟩, .string ⟨#[]⟩, .int .i64 0]) ∧ Below W.heap.size W w' := RW
    clear RW q hl
    generalize sB g = A at *
    generalize sB r = B at *
    go_enter Tryz.func72, Tryz.ntmps72
    go_wp2_with fail
    refine (RW2 _).mono ?_
    rintro o w1 ⟨rfl, b1⟩
    have HK1 : Hid (KW w w1 A B) := HK0.out.step b1
    clear b1
    clear HK0
    obtain ⟨_, sz, a0, a1, rr, fr⟩ := HK1.out
    have r0 := rr 0
    have r1 := rr 1
    have r2 := rr 2
    have r3 := rr 3
    have r4 := rr 4
    have r5 := rr 5
    have r6 := rr 6
    have r7 := rr 7
    simp only [aC   ] at r0 r1 r2 r3 r4 r5 r6 r7
    clear rr
    go_wp2
    refine bodyPost_ret (v := .tuple #[.agg #[.bool false, .int .i64 0, .string ⟨#[]⟩, .int .i64 0, .bool false, .int .u64 0, .int .i64 0, .bool false], .int .i64 0]) (by simp [results, Tryz.results72, go_sem, *]) rfl ⟨rfl, ?_⟩
    repeat (refine Below.setCell ?_ bC     _)
    exact HK1.out.bel
  | some x =>
    obtain ⟨W, P, n⟩ := x
    rw [mC        q]
    rw [q] at RW
    have RW2 : ∀ W', Calls Tryz.prog 97 #[.string (sB r), .int .i64 10] W' fun e w' => e = .returned (.tuple #[.string (sB W), .string (sB P), .int .i64 (n : Int)]) ∧ Below W'.heap.size W' w' := RW
    have hn := fB      q
    have hwp := jQ      q
    have hd : (r.drop n).length ≤ 140737488351256 := by rw [List.length_drop]; omega
    have EX : ∀ W', Calls Tryz.prog 98 #[.string (sB (r.drop n)), .int .u8 101] W' fun e w' => e = .returned (.tuple #[.int .i64 (exO (exn 101 (r.drop n))).1, .int .i64 ((exO (exn 101 (r.drop n))).2 : Int)]) ∧ Below W'.heap.size W' w' := fun W' => by
      rw [← aCc  ]; exact cZ           (r.drop n) hd 101 W'
    have DE := fun W' => aIq     W P (by omega) (exO (exn 101 (r.drop n))).1 W'
    have hm : (exO (exn 101 (r.drop n))).2 ≤ 140737488351256 := Nat.le_trans aKJ    hd
    have x1 := aJ      r n
    have nz0 : ((n : Int) == 0) = false := beq_eq_false_iff_ne.mpr (by omega)
    have n1 : (n : Int) ≤ ((sB r).size : Int) := by rw [aA     ]; omega
    have n2 : (0 : Int) ≤ (n : Int) := by omega
    have hB : (sB r).size ≤ 140737488351256 := hl
    unfold deV dcV at DE
    show Calls _ _ _ _ fun e w' => e = .returned (.tuple #[.agg #[.bool false, .int .i64 1, .string (sB (dcT W P)), .int .i64 (dcP W P (exO (exn 101 (r.drop n))).1), .bool (dcC W P), .int .u64 0, .int .i64 0, .bool false], .int .i64 ((n + (exO (exn 101 (r.drop n))).2 : Nat) : Int)]) ∧ _
    clear RW q hl hd hwp hn
    generalize sB (dcT W P) = D1 at *
    generalize dcP W P (exO (exn 101 (r.drop n))).1 = D2 at *
    generalize dcC W P = D3 at *
    generalize (exO (exn 101 (r.drop n))).1 = X at *
    generalize (exO (exn 101 (r.drop n))).2 = m at *
    generalize sB (r.drop n) = B2 at *
    generalize sB W = s at *
    generalize sB P = t at *
    generalize sB g = A at *
    generalize sB r = B at *
    go_enter Tryz.func72, Tryz.ntmps72
    go_wp2_with fail
    refine (RW2 _).mono ?_
    rintro o w1 ⟨rfl, b1⟩
    have HK1 : Hid (KW w w1 A B) := HK0.out.step b1
    clear b1
    clear HK0
    obtain ⟨_, sz, a0, a1, rr, fr⟩ := HK1.out
    have r0 := rr 0
    have r1 := rr 1
    have r2 := rr 2
    have r3 := rr 3
    have r4 := rr 4
    have r5 := rr 5
    have r6 := rr 6
    have r7 := rr 7
    simp only [aC   ] at r0 r1 r2 r3 r4 r5 r6 r7
    clear rr
    go_wp2_with fail
    refine (EX _).mono ?_
    rintro o w2 ⟨rfl, b2⟩
    have HK2 : Hid (KW w w2 A B) := HK1.out.step b2
    clear b2
    clear sz a0 a1 fr r0 r1 r2 r3 r4 r5 r6 r7
    obtain ⟨_, sz, a0, a1, rr, fr⟩ := HK2.out
    have r0 := rr 0
    have r1 := rr 1
    have r2 := rr 2
    have r3 := rr 3
    have r4 := rr 4
    have r5 := rr 5
    have r6 := rr 6
    have r7 := rr 7
    simp only [aC   ] at r0 r1 r2 r3 r4 r5 r6 r7
    clear rr
    go_wp2_with fail
    refine (DE _).mono ?_
    rintro o w3 ⟨rfl, b3⟩
    have HK3 : Hid (KW w w3 A B) := HK2.out.step b3
    clear b3
    clear sz a0 a1 fr r0 r1 r2 r3 r4 r5 r6 r7
    obtain ⟨_, sz, a0, a1, rr, fr⟩ := HK3.out
    have r0 := rr 0
    have r1 := rr 1
    have r2 := rr 2
    have r3 := rr 3
    have r4 := rr 4
    have r5 := rr 5
    have r6 := rr 6
    have r7 := rr 7
    simp only [aC   ] at r0 r1 r2 r3 r4 r5 r6 r7
    clear rr
    go_wp2
    refine bodyPost_ret (v := .tuple #[.agg #[.bool false, .int .i64 1, .string D1, .int .i64 D2, .bool D3, .int .u64 0, .int .i64 0, .bool false], .int .i64 ((n : Int) + (m : Int))]) (by simp [results, Tryz.results72, go_sem, *]) rfl ⟨by simp, ?_⟩
    repeat (refine Below.setCell ?_ bC     _)
    exact HK3.out.bel
theorem aHW (r:List UInt8):bt (sB r) 0=hdC r:=by
 cases r with
 | nil=>exact pX (by decide)
 | cons c r=>rw [nS (show 0<(sB (c :: r)).size by rw [aA];simp)];rfl
theorem aDl    (r : List UInt8) : bt (sB r) 1 = hdC r.tail := by
  cases r with
  | nil => exact pX     (by decide)
  | cons c r =>
    cases r with
    | nil => exact pX     (by rw [aA     ]; simp)
    | cons d r => rw [nS    (show 1 < (sB (c :: d :: r)).size by rw [aA     ]; simp)]; rfl
theorem aCy {r:List UInt8}(h:isX r=true):pfB (bt (sB r) 0) (bt (sB r) 1)=16/\pfN (bt (sB r) 0) (bt (sB r) 1)=2:=by
 rw [aHW,aDl]
 have h':=of_decide_eq_true h
 obtain ⟨ha,hb⟩:=h'
 constructor
 . unfold pfB
   rw [if_pos ⟨ha,by omega⟩,if_neg (by omega),if_pos hb]
 . unfold pfN
   rw [if_pos ⟨ha,by omega⟩,if_pos (by omega)]
theorem aMk {r:List UInt8}(h:isX r=false):pfB (bt (sB r) 0) (bt (sB r) 1) ≠ 16:=by
 rw [aHW,aDl]
 have h':=of_decide_eq_false h
 unfold pfB
 by_cases a:hdC r=48/\hdC r.tail<256
 . rw [if_pos a]
   by_cases b:hdC r.tail=98 \/ hdC r.tail=66
   . rw [if_pos b];omega
   . rw [if_neg b,if_neg (fun z=>h' ⟨a.1,z⟩)];omega
 . rw [if_neg a];omega
theorem aJp {b:Nat}{l:List UInt8}:0<rch b false l ↔ hdD b l=true:=by
 constructor
 . intro h
   rw [sJ]
   rcases Nat.eq_zero_or_pos (hdn b l) with z | z
   . rw [aAf z] at h;omega
   . exact z
 . exact fun h=>aAe h
theorem xU (l:List UInt8):l.drop 1=l.tail:=by cases l <;> rfl
theorem yU {l:List UInt8}:jnB l=true ↔ (hdC l=95/\hdD 16 l.tail=true):=by
 unfold jnB bgn
 rw [Bool.and_eq_true,decide_eq_true_eq,decide_eq_true_eq,aJp,xU]
 exact Iff.rfl
def ahN (r:List UInt8):Nat:=if jnB (r.drop 2)=true then 3 else 2
theorem aEy (r:List UInt8):mnt 16 true (r.drop 2)=(mnt 16 false (r.drop (ahN r))).map (fun x=>(x.1,x.2.1,x.2.2+(ahN r - 2))):=by
 rw [aGT (by omega)]
 unfold ahN
 by_cases h:jnB (r.drop 2)=true
 . rw [if_pos (yU.1 h),if_pos h,<- xU,List.drop_drop]
 . rw [if_neg (fun z=>h (yU.2 z)),if_neg h]
   cases mnt 16 false (r.drop 2) <;> rfl
theorem yY {r:List UInt8}(h:isX r=false):aQ r=none:=by unfold aQ;rw [if_neg (by rw [h];decide)]
theorem uC {r:List UInt8}(h:mnt 16 false (r.drop (ahN r))=none):aQ r=none:=by
 unfold aQ
 rw [aEy,h]
 split <;> rfl
theorem aKc (r:List UInt8):2<=ahN r/\ahN r<=3:=by unfold ahN;split <;> omega
theorem uD {r W P:List UInt8}{n:Nat}(hx:isX r=true) (h:mnt 16 false (r.drop (ahN r))=some (W,P,n)):aQ r=match exn 112 (r.drop (ahN r+n)) with
 | none=>none
 | some (e,m)=>some (cV W P e,ahN r+n+m):=by
 unfold aQ
 rw [if_pos hx,aEy,h]
 have:=aKc r
 have e:2+(n+(ahN r - 2))=ahN r+n:=by omega
 show (match exn 112 (r.drop (2+(n+(ahN r - 2)))) with | none=>none | some (e,m)=>some (cV W P e,2+(n+(ahN r - 2))+m))=_
 rw [e]
theorem sL      {r : List UInt8} (h : isX r = true) : 2 ≤ r.length := by
  have h' := of_decide_eq_true h
  cases r with
  | nil => have := h'.1; cases this
  | cons c t =>
    cases t with
    | nil =>
      have k : hdC ([] : List UInt8) = 120 ∨ hdC ([] : List UInt8) = 88 := h'.2
      have : hdC ([] : List UInt8) = 256 := rfl
      omega
    | cons d t => simp
theorem aK2 {l:List UInt8}(h:jnB l=true):1<=l.length:=by
 have h':=(yU.1 h).1
 cases l with
 | nil=>have:hdC ([]:List UInt8)=256:=rfl;omega
 | cons c t=>simp
theorem aIU (g r:List UInt8) (hl:r.length<=140737488351256) (hx:isX r=false) (w:World):Cb 71 #[.agg #[.string (sB g),.string (sB r)]] w (kV (aQ r)):=by
 rw [yY hx]
 have PF:=fun W=>kQ (sB r) (by rw [aA];omega) W
 have q:(pfB (bt (sB r) 0) (bt (sB r) 1) != 16)=true:=bne_iff_ne.mpr (aMk hx)
 generalize pfB (bt (sB r) 0) (bt (sB r) 1)=x at *
 generalize pfN (bt (sB r) 0) (bt (sB r) 1)=y at *
 generalize sB g=A at *
 generalize sB r=B at *
 clear hl hx
 show Calls _ _ _ _ fun e w'=>e=.returned (.tuple #[.agg #[.bool false,vI 0,.string ⟨#[]⟩,vI 0,.bool false,vU 0,vI 0,.bool false],vI 0])/\_
 go_enter Tryz.func71,Tryz.ntmps71
 go_wp2_with fail
 refine (PF _).mono ?_
 rintro o w1 ⟨rfl,rfl⟩
 go_wp2
 refine bodyPost_ret (v:=.tuple #[.agg #[.bool false,vI 0,.string ⟨#[]⟩,vI 0,.bool false,vU 0,vI 0,.bool false],vI 0]) (by simp [results,Tryz.results71,go_sem]) rfl ⟨rfl,?_⟩
 exact (bz _ _).alloc (by simp) _
theorem aEe       (g r : List UInt8) (hl : r.length ≤ 140737488351256) (hx : isX r = true) (hj : jnB (r.drop 2) = false) (w : World) : Calls Tryz.prog 71 #[.agg #[.string (sB g), .string (sB r)]] w fun e w' => e = .returned (kV (aQ   r)) ∧ Below w.heap.size w w' := by
  have K0 := KW.start w (sB g) (sB r)
  have PF := fun W => kQ         (sB r) (by rw [aA     ]; omega) W
  rw [(aCy  hx).1, (aCy  hx).2] at PF
  have ea : ahN r = 2 := by unfold ahN; rw [if_neg (by rw [hj]; decide)]
  have h2 := sL      hx
  have hl2 : (r.drop 2).length ≤ 140737488351256 := by rw [List.length_drop]; omega
  have hla : (r.drop 2).length ≤ 140737488351256 := by rw [List.length_drop]; omega
  have JN := fun W => uA        (r.drop 2) hl2 W
  rw [hj] at JN
  have h3 : 2 ≤ r.length := h2
  have RW : ∀ W, Calls Tryz.prog 97 #[.string (sB (r.drop 2)), .int .i64 16] W fun e w' => e = .returned (rwV (mnt 16 false (r.drop 2))) ∧ Below W.heap.size W w' := fun W => pL       (r.drop 2) hla 16 (by omega) (by omega) W
  have HK0 : Hid (KW w ((w.alloc (.cells #[.string (sB g), .string (sB r)] 138)).alloc (.cells aC    43)) (sB g) (sB r)) := K0
  have x2 := aJ      r 2
  have x3 := aJ      r 2
  have z2 : (2 : Int) ≤ ((sB r).size : Int) := by rw [aA     ]; omega
  have z3 : (2 : Int) ≤ ((sB r).size : Int) := by rw [aA     ]; omega
  have hB : (sB r).size ≤ 140737488351256 := hl
  unfold aC    at HK0
  clear K0
  cases q : mnt 16 false (r.drop 2) with
  | none =>
    rw [uC        (by rw [ea]; exact q)]
    rw [q] at RW
    have RW2 : ∀ W, Calls Tryz.prog 97 #[.string (sB (r.drop 2)), .int .i64 16] W fun e w' => e = .returned (.tuple #[.string ⟨#[]⟩, .string ⟨#[]⟩, .int .i64 0]) ∧ Below W.heap.size W w' := RW
    have EX : ∀ W', Calls Tryz.prog 98 #[.string (sB (r.drop 2)), .int .u8 112] W' fun e w' => e = .returned (.tuple #[.int .i64 (exO (exn 112 (r.drop 2))).1, .int .i64 ((exO (exn 112 (r.drop 2))).2 : Int)]) ∧ Below W'.heap.size W' w' := fun W' => by
      rw [← aCc  ]; exact cZ           (r.drop 2) hla 112 W'
    clear RW q hl hl2 hla hx hj h2 h3 ea
    generalize (exO (exn 112 (r.drop 2))).1 = X at *
    generalize (exO (exn 112 (r.drop 2))).2 = m at *
    generalize sB (r.drop 2) = B3 at *
    generalize sB g = A at *
    generalize sB r = B at *
    go_enter Tryz.func71, Tryz.ntmps71
    go_wp2_with fail
    refine (PF _).mono ?_
    rintro o w1 ⟨rfl, rfl⟩
    go_wp2_with fail
    refine (JN _).mono ?_
    rintro o w1 ⟨rfl, rfl⟩
    go_wp2_with fail
    refine (RW2 _).mono ?_
    rintro o w1 ⟨rfl, b1⟩
    have HK1 : Hid (KW w w1 A B) := HK0.out.step b1
    clear b1
    clear HK0
    obtain ⟨_, sz, a0, a1, rr, fr⟩ := HK1.out
    have r0 := rr 0
    have r1 := rr 1
    have r2 := rr 2
    have r3 := rr 3
    have r4 := rr 4
    have r5 := rr 5
    have r6 := rr 6
    have r7 := rr 7
    simp only [aC   ] at r0 r1 r2 r3 r4 r5 r6 r7
    clear rr
    go_wp2_with fail
    refine (EX _).mono ?_
    rintro o w2 ⟨rfl, b2⟩
    have HK2 : Hid (KW w w2 A B) := HK1.out.step b2
    clear b2
    clear sz a0 a1 fr r0 r1 r2 r3 r4 r5 r6 r7
    obtain ⟨_, sz, a0, a1, rr, fr⟩ := HK2.out
    have r0 := rr 0
    have r1 := rr 1
    have r2 := rr 2
    have r3 := rr 3
    have r4 := rr 4
    have r5 := rr 5
    have r6 := rr 6
    have r7 := rr 7
    simp only [aC   ] at r0 r1 r2 r3 r4 r5 r6 r7
    clear rr
    go_wp2
    refine bodyPost_ret (v := .tuple #[.agg #[.bool false, .int .i64 0, .string ⟨#[]⟩, .int .i64 0, .bool false, .int .u64 0, .int .i64 0, .bool false], .int .i64 0]) (by simp [results, Tryz.results71, go_sem, *]) rfl ⟨rfl, ?_⟩
    repeat (refine Below.setCell ?_ bC     _)
    exact HK2.out.bel
  | some x =>
    obtain ⟨W, P, n⟩ := x
    rw [uD        hx (by rw [ea]; exact q), ea]
    rw [q] at RW
    have RW2 : ∀ W', Calls Tryz.prog 97 #[.string (sB (r.drop 2)), .int .i64 16] W' fun e w' => e = .returned (.tuple #[.string (sB W), .string (sB P), .int .i64 (n : Int)]) ∧ Below W'.heap.size W' w' := RW
    have hn := fB      q
    have hwp := jQ      q
    have hmem := oD      q
    rw [List.length_drop] at hn hwp
    have hd : (r.drop (2 + n)).length ≤ 140737488351256 := by rw [List.length_drop]; omega
    have EX : ∀ W', Calls Tryz.prog 98 #[.string (sB (r.drop (2 + n))), .int .u8 112] W' fun e w' => e = .returned (aAx  (exn 112 (r.drop (2 + n)))) ∧ Below W'.heap.size W' w' := fun W' => cZ           (r.drop (2 + n)) hd 112 W'
    have x4 := aJ      r (2 + n)
    have nz0 : ((n : Int) == 0) = false := beq_eq_false_iff_ne.mpr (by omega)
    have n1 : (2 : Int) + (n : Int) ≤ ((sB r).size : Int) := by rw [aA     ]; omega
    have n2 : (0 : Int) ≤ (n : Int) := by omega
    have n3 : ((2 : Int) + (n : Int)).toNat = 2 + n := by omega
    have n4 : n ≤ 140737488351256 := by omega
    cases qe : exn 112 (r.drop (2 + n)) with
    | none =>
      rw [qe] at EX
      have EX2 : ∀ W', Calls Tryz.prog 98 #[.string (sB (r.drop (2 + n))), .int .u8 112] W' fun e w' => e = .returned (.tuple #[.int .i64 0, .int .i64 0]) ∧ Below W'.heap.size W' w' := EX
      show Calls _ _ _ _ fun e w' => e = .returned (.tuple #[.agg #[.bool false, .int .i64 0, .string ⟨#[]⟩, .int .i64 0, .bool false, .int .u64 0, .int .i64 0, .bool false], .int .i64 0]) ∧ _
      clear RW q hl hl2 hla hx hj h2 h3 ea qe EX hmem hwp hn hd
      generalize sB (r.drop (2 + n)) = B4 at *
      generalize sB W = s at *
      generalize sB P = t at *
      generalize sB (r.drop 2) = B3 at *
      generalize sB g = A at *
      generalize sB r = B at *
      go_enter Tryz.func71, Tryz.ntmps71
      go_wp2_with fail
      refine (PF _).mono ?_
      rintro o w1 ⟨rfl, rfl⟩
      go_wp2_with fail
      refine (JN _).mono ?_
      rintro o w1 ⟨rfl, rfl⟩
      go_wp2_with fail
      refine (RW2 _).mono ?_
      rintro o w1 ⟨rfl, b1⟩
      have HK1 : Hid (KW w w1 A B) := HK0.out.step b1
      clear b1
      clear HK0
      obtain ⟨_, sz, a0, a1, rr, fr⟩ := HK1.out
      have r0 := rr 0
      have r1 := rr 1
      have r2 := rr 2
      have r3 := rr 3
      have r4 := rr 4
      have r5 := rr 5
      have r6 := rr 6
      have r7 := rr 7
      simp only [aC   ] at r0 r1 r2 r3 r4 r5 r6 r7
      clear rr
      go_wp2_with fail
      refine (EX2 _).mono ?_
      rintro o w2 ⟨rfl, b2⟩
      have HK2 : Hid (KW w w2 A B) := HK1.out.step b2
      clear b2
      clear sz a0 a1 fr r0 r1 r2 r3 r4 r5 r6 r7
      obtain ⟨_, sz, a0, a1, rr, fr⟩ := HK2.out
      have r0 := rr 0
      have r1 := rr 1
      have r2 := rr 2
      have r3 := rr 3
      have r4 := rr 4
      have r5 := rr 5
      have r6 := rr 6
      have r7 := rr 7
      simp only [aC   ] at r0 r1 r2 r3 r4 r5 r6 r7
      clear rr
      go_wp2
      refine bodyPost_ret (v := .tuple #[.agg #[.bool false, .int .i64 0, .string ⟨#[]⟩, .int .i64 0, .bool false, .int .u64 0, .int .i64 0, .bool false], .int .i64 0]) (by simp [results, Tryz.results71, go_sem, *]) rfl ⟨rfl, ?_⟩
      repeat (refine Below.setCell ?_ bC     _)
      exact HK2.out.bel
    | some y =>
      obtain ⟨X, m⟩ := y
      rw [qe] at EX
      have EX2 : ∀ W', Calls Tryz.prog 98 #[.string (sB (r.drop (2 + n))), .int .u8 112] W' fun e w' => e = .returned (.tuple #[.int .i64 X, .int .i64 (m : Int)]) ∧ Below W'.heap.size W' w' := EX
      have ep := gL      qe
      have HX := fun W' => lY           W P (by omega) hmem X ep.2.2.1 ep.2.2.2 W'
      have hm : m ≤ 140737488351256 := by omega
      have m0 : ((m : Int) == 0) = false := beq_eq_false_iff_ne.mpr (by omega)
      unfold spV at HX
      show Calls _ _ _ _ fun e w' => e = .returned (.tuple #[.agg #[.bool false, .int .i64 2, .string ⟨#[]⟩, .int .i64 0, .bool false, .int .u64 (hxM (W ++ P) : Int), .int .i64 (hxE W P X), .bool (hxC (W ++ P))], .int .i64 ((2 + n + m : Nat) : Int)]) ∧ _
      have HX2 : ∀ W', Calls Tryz.prog 99 #[.string (sB W), .string (sB P), .int .i64 X] W' fun o w' => o = .returned (.agg #[.bool false, .int .i64 2, .string ⟨#[]⟩, .int .i64 0, .bool false, .int .u64 (hxM (W ++ P) : Int), .int .i64 (hxE W P X), .bool (hxC (W ++ P))]) ∧ Below W'.heap.size W' w' := HX
      clear RW q hl hl2 hla hx hj h2 h3 ea qe EX hmem hwp hn hd ep HX
      generalize sB (r.drop (2 + n)) = B4 at *
      generalize (hxM (W ++ P) : Int) = D1 at *
      generalize hxE W P X = D2 at *
      generalize hxC (W ++ P) = D3 at *
      generalize sB W = s at *
      generalize sB P = t at *
      generalize sB (r.drop 2) = B3 at *
      generalize sB g = A at *
      generalize sB r = B at *
      go_enter Tryz.func71, Tryz.ntmps71
      go_wp2_with fail
      refine (PF _).mono ?_
      rintro o w1 ⟨rfl, rfl⟩
      go_wp2_with fail
      refine (JN _).mono ?_
      rintro o w1 ⟨rfl, rfl⟩
      go_wp2_with fail
      refine (RW2 _).mono ?_
      rintro o w1 ⟨rfl, b1⟩
      have HK1 : Hid (KW w w1 A B) := HK0.out.step b1
      clear b1
      clear HK0
      obtain ⟨_, sz, a0, a1, rr, fr⟩ := HK1.out
      have r0 := rr 0
      have r1 := rr 1
      have r2 := rr 2
      have r3 := rr 3
      have r4 := rr 4
      have r5 := rr 5
      have r6 := rr 6
      have r7 := rr 7
      simp only [aC   ] at r0 r1 r2 r3 r4 r5 r6 r7
      clear rr
      go_wp2_with fail
      refine (EX2 _).mono ?_
      rintro o w2 ⟨rfl, b2⟩
      have HK2 : Hid (KW w w2 A B) := HK1.out.step b2
      clear b2
      clear sz a0 a1 fr r0 r1 r2 r3 r4 r5 r6 r7
      obtain ⟨_, sz, a0, a1, rr, fr⟩ := HK2.out
      have r0 := rr 0
      have r1 := rr 1
      have r2 := rr 2
      have r3 := rr 3
      have r4 := rr 4
      have r5 := rr 5
      have r6 := rr 6
      have r7 := rr 7
      simp only [aC   ] at r0 r1 r2 r3 r4 r5 r6 r7
      clear rr
      go_wp2_with fail
      refine (HX2 _).mono ?_
      rintro o w3 ⟨rfl, b3⟩
      have HK3 : Hid (KW w w3 A B) := HK2.out.step b3
      clear b3
      clear sz a0 a1 fr r0 r1 r2 r3 r4 r5 r6 r7
      obtain ⟨_, sz, a0, a1, rr, fr⟩ := HK3.out
      have r0 := rr 0
      have r1 := rr 1
      have r2 := rr 2
      have r3 := rr 3
      have r4 := rr 4
      have r5 := rr 5
      have r6 := rr 6
      have r7 := rr 7
      simp only [aC   ] at r0 r1 r2 r3 r4 r5 r6 r7
      clear rr
      go_wp2
      refine bodyPost_ret (v := .tuple #[.agg #[.bool false, .int .i64 2, .string ⟨#[]⟩, .int .i64 0, .bool false, .int .u64 D1, .int .i64 D2, .bool D3], .int .i64 ((2 : Int) + (n : Int) + (m : Int))]) (by simp [results, Tryz.results71, go_sem, *]) rfl ⟨by simp, ?_⟩
      repeat (refine Below.setCell ?_ bC     _)
      exact HK3.out.bel
theorem aGE      (g r : List UInt8) (hl : r.length ≤ 140737488351256) (hx : isX r = true) (hj : jnB (r.drop 2) = true) (w : World) : Calls Tryz.prog 71 #[.agg #[.string (sB g), .string (sB r)]] w fun e w' => e = .returned (kV (aQ   r)) ∧ Below w.heap.size w w' := by
  have K0 := KW.start w (sB g) (sB r)
  have PF := fun W => kQ         (sB r) (by rw [aA     ]; omega) W
  rw [(aCy  hx).1, (aCy  hx).2] at PF
  have ea : ahN r = 3 := by unfold ahN; rw [if_pos hj]
  have h2 := sL      hx
  have hl2 : (r.drop 2).length ≤ 140737488351256 := by rw [List.length_drop]; omega
  have hla : (r.drop 3).length ≤ 140737488351256 := by rw [List.length_drop]; omega
  have JN := fun W => uA        (r.drop 2) hl2 W
  rw [hj] at JN
  have h3 : 3 ≤ r.length := by have := aK2    hj; rw [List.length_drop] at this; omega
  have RW : ∀ W, Calls Tryz.prog 97 #[.string (sB (r.drop 3)), .int .i64 16] W fun e w' => e = .returned (rwV (mnt 16 false (r.drop 3))) ∧ Below W.heap.size W w' := fun W => pL       (r.drop 3) hla 16 (by omega) (by omega) W
  have HK0 : Hid (KW w ((w.alloc (.cells #[.string (sB g), .string (sB r)] 138)).alloc (.cells aC    43)) (sB g) (sB r)) := K0
  have x2 := aJ      r 2
  have x3 := aJ      r 3
  have z2 : (2 : Int) ≤ ((sB r).size : Int) := by rw [aA     ]; omega
  have z3 : (3 : Int) ≤ ((sB r).size : Int) := by rw [aA     ]; omega
  have hB : (sB r).size ≤ 140737488351256 := hl
  unfold aC    at HK0
  clear K0
  cases q : mnt 16 false (r.drop 3) with
  | none =>
    rw [uC        (by rw [ea]; exact q)]
    rw [q] at RW
    have RW2 : ∀ W, Calls Tryz.prog 97 #[.string (sB (r.drop 3)), .int .i64 16] W fun e w' => e = .returned (.tuple #[.string ⟨#[]⟩, .string ⟨#[]⟩, .int .i64 0]) ∧ Below W.heap.size W w' := RW
    have EX : ∀ W', Calls Tryz.prog 98 #[.string (sB (r.drop 3)), .int .u8 112] W' fun e w' => e = .returned (.tuple #[.int .i64 (exO (exn 112 (r.drop 3))).1, .int .i64 ((exO (exn 112 (r.drop 3))).2 : Int)]) ∧ Below W'.heap.size W' w' := fun W' => by
      rw [← aCc  ]; exact cZ           (r.drop 3) hla 112 W'
    clear RW q hl hl2 hla hx hj h2 h3 ea
    generalize (exO (exn 112 (r.drop 3))).1 = X at *
    generalize (exO (exn 112 (r.drop 3))).2 = m at *
    generalize sB (r.drop 3) = B3 at *
    generalize sB (r.drop 2) = B2 at *
    generalize sB g = A at *
    generalize sB r = B at *
    go_enter Tryz.func71, Tryz.ntmps71
    go_wp2_with fail
    refine (PF _).mono ?_
    rintro o w1 ⟨rfl, rfl⟩
    go_wp2_with fail
    refine (JN _).mono ?_
    rintro o w1 ⟨rfl, rfl⟩
    go_wp2_with fail
    refine (RW2 _).mono ?_
    rintro o w1 ⟨rfl, b1⟩
    have HK1 : Hid (KW w w1 A B) := HK0.out.step b1
    clear b1
    clear HK0
    obtain ⟨_, sz, a0, a1, rr, fr⟩ := HK1.out
    have r0 := rr 0
    have r1 := rr 1
    have r2 := rr 2
    have r3 := rr 3
    have r4 := rr 4
    have r5 := rr 5
    have r6 := rr 6
    have r7 := rr 7
    simp only [aC   ] at r0 r1 r2 r3 r4 r5 r6 r7
    clear rr
    go_wp2_with fail
    refine (EX _).mono ?_
    rintro o w2 ⟨rfl, b2⟩
    have HK2 : Hid (KW w w2 A B) := HK1.out.step b2
    clear b2
    clear sz a0 a1 fr r0 r1 r2 r3 r4 r5 r6 r7
    obtain ⟨_, sz, a0, a1, rr, fr⟩ := HK2.out
    have r0 := rr 0
    have r1 := rr 1
    have r2 := rr 2
    have r3 := rr 3
    have r4 := rr 4
    have r5 := rr 5
    have r6 := rr 6
    have r7 := rr 7
    simp only [aC   ] at r0 r1 r2 r3 r4 r5 r6 r7
    clear rr
    go_wp2
    refine bodyPost_ret (v := .tuple #[.agg #[.bool false, .int .i64 0, .string ⟨#[]⟩, .int .i64 0, .bool false, .int .u64 0, .int .i64 0, .bool false], .int .i64 0]) (by simp [results, Tryz.results71, go_sem, *]) rfl ⟨rfl, ?_⟩
    repeat (refine Below.setCell ?_ bC     _)
    exact HK2.out.bel
  | some x =>
    obtain ⟨W, P, n⟩ := x
    rw [uD        hx (by rw [ea]; exact q), ea]
    rw [q] at RW
    have RW2 : ∀ W', Calls Tryz.prog 97 #[.string (sB (r.drop 3)), .int .i64 16] W' fun e w' => e = .returned (.tuple #[.string (sB W), .string (sB P), .int .i64 (n : Int)]) ∧ Below W'.heap.size W' w' := RW
    have hn := fB      q
    have hwp := jQ      q
    have hmem := oD      q
    rw [List.length_drop] at hn hwp
    have hd : (r.drop (3 + n)).length ≤ 140737488351256 := by rw [List.length_drop]; omega
    have EX : ∀ W', Calls Tryz.prog 98 #[.string (sB (r.drop (3 + n))), .int .u8 112] W' fun e w' => e = .returned (aAx  (exn 112 (r.drop (3 + n)))) ∧ Below W'.heap.size W' w' := fun W' => cZ           (r.drop (3 + n)) hd 112 W'
    have x4 := aJ      r (3 + n)
    have nz0 : ((n : Int) == 0) = false := beq_eq_false_iff_ne.mpr (by omega)
    have n1 : (3 : Int) + (n : Int) ≤ ((sB r).size : Int) := by rw [aA     ]; omega
    have n2 : (0 : Int) ≤ (n : Int) := by omega
    have n3 : ((3 : Int) + (n : Int)).toNat = 3 + n := by omega
    have n4 : n ≤ 140737488351256 := by omega
    cases qe : exn 112 (r.drop (3 + n)) with
    | none =>
      rw [qe] at EX
      have EX2 : ∀ W', Calls Tryz.prog 98 #[.string (sB (r.drop (3 + n))), .int .u8 112] W' fun e w' => e = .returned (.tuple #[.int .i64 0, .int .i64 0]) ∧ Below W'.heap.size W' w' := EX
      show Calls _ _ _ _ fun e w' => e = .returned (.tuple #[.agg #[.bool false, .int .i64 0, .string ⟨#[]⟩, .int .i64 0, .bool false, .int .u64 0, .int .i64 0, .bool false], .int .i64 0]) ∧ _
      clear RW q hl hl2 hla hx hj h2 h3 ea qe EX hmem hwp hn hd
      generalize sB (r.drop (3 + n)) = B4 at *
      generalize sB W = s at *
      generalize sB P = t at *
      generalize sB (r.drop 3) = B3 at *
      generalize sB (r.drop 2) = B2 at *
      generalize sB g = A at *
      generalize sB r = B at *
      go_enter Tryz.func71, Tryz.ntmps71
      go_wp2_with fail
      refine (PF _).mono ?_
      rintro o w1 ⟨rfl, rfl⟩
      go_wp2_with fail
      refine (JN _).mono ?_
      rintro o w1 ⟨rfl, rfl⟩
      go_wp2_with fail
      refine (RW2 _).mono ?_
      rintro o w1 ⟨rfl, b1⟩
      have HK1 : Hid (KW w w1 A B) := HK0.out.step b1
      clear b1
      clear HK0
      obtain ⟨_, sz, a0, a1, rr, fr⟩ := HK1.out
      have r0 := rr 0
      have r1 := rr 1
      have r2 := rr 2
      have r3 := rr 3
      have r4 := rr 4
      have r5 := rr 5
      have r6 := rr 6
      have r7 := rr 7
      simp only [aC   ] at r0 r1 r2 r3 r4 r5 r6 r7
      clear rr
      go_wp2_with fail
      refine (EX2 _).mono ?_
      rintro o w2 ⟨rfl, b2⟩
      have HK2 : Hid (KW w w2 A B) := HK1.out.step b2
      clear b2
      clear sz a0 a1 fr r0 r1 r2 r3 r4 r5 r6 r7
      obtain ⟨_, sz, a0, a1, rr, fr⟩ := HK2.out
      have r0 := rr 0
      have r1 := rr 1
      have r2 := rr 2
      have r3 := rr 3
      have r4 := rr 4
      have r5 := rr 5
      have r6 := rr 6
      have r7 := rr 7
      simp only [aC   ] at r0 r1 r2 r3 r4 r5 r6 r7
      clear rr
      go_wp2
      refine bodyPost_ret (v := .tuple #[.agg #[.bool false, .int .i64 0, .string ⟨#[]⟩, .int .i64 0, .bool false, .int .u64 0, .int .i64 0, .bool false], .int .i64 0]) (by simp [results, Tryz.results71, go_sem, *]) rfl ⟨rfl, ?_⟩
      repeat (refine Below.setCell ?_ bC     _)
      exact HK2.out.bel
    | some y =>
      obtain ⟨X, m⟩ := y
      rw [qe] at EX
      have EX2 : ∀ W', Calls Tryz.prog 98 #[.string (sB (r.drop (3 + n))), .int .u8 112] W' fun e w' => e = .returned (.tuple #[.int .i64 X, .int .i64 (m : Int)]) ∧ Below W'.heap.size W' w' := EX
      have ep := gL      qe
      have HX := fun W' => lY           W P (by omega) hmem X ep.2.2.1 ep.2.2.2 W'
      have hm : m ≤ 140737488351256 := by omega
      have m0 : ((m : Int) == 0) = false := beq_eq_false_iff_ne.mpr (by omega)
      unfold spV at HX
      show Calls _ _ _ _ fun e w' => e = .returned (.tuple #[.agg #[.bool false, .int .i64 2, .string ⟨#[]⟩, .int .i64 0, .bool false, .int .u64 (hxM (W ++ P) : Int), .int .i64 (hxE W P X), .bool (hxC (W ++ P))], .int .i64 ((3 + n + m : Nat) : Int)]) ∧ _
      have HX2 : ∀ W', Calls Tryz.prog 99 #[.string (sB W), .string (sB P), .int .i64 X] W' fun o w' => o = .returned (.agg #[.bool false, .int .i64 2, .string ⟨#[]⟩, .int .i64 0, .bool false, .int .u64 (hxM (W ++ P) : Int), .int .i64 (hxE W P X), .bool (hxC (W ++ P))]) ∧ Below W'.heap.size W' w' := HX
      clear RW q hl hl2 hla hx hj h2 h3 ea qe EX hmem hwp hn hd ep HX
      generalize sB (r.drop (3 + n)) = B4 at *
      generalize (hxM (W ++ P) : Int) = D1 at *
      generalize hxE W P X = D2 at *
      generalize hxC (W ++ P) = D3 at *
      generalize sB W = s at *
      generalize sB P = t at *
      generalize sB (r.drop 3) = B3 at *
      generalize sB (r.drop 2) = B2 at *
      generalize sB g = A at *
      generalize sB r = B at *
      go_enter Tryz.func71, Tryz.ntmps71
      go_wp2_with fail
      refine (PF _).mono ?_
      rintro o w1 ⟨rfl, rfl⟩
      go_wp2_with fail
      refine (JN _).mono ?_
      rintro o w1 ⟨rfl, rfl⟩
      go_wp2_with fail
      refine (RW2 _).mono ?_
      rintro o w1 ⟨rfl, b1⟩
      have HK1 : Hid (KW w w1 A B) := HK0.out.step b1
      clear b1
      clear HK0
      obtain ⟨_, sz, a0, a1, rr, fr⟩ := HK1.out
      have r0 := rr 0
      have r1 := rr 1
      have r2 := rr 2
      have r3 := rr 3
      have r4 := rr 4
      have r5 := rr 5
      have r6 := rr 6
      have r7 := rr 7
      simp only [aC   ] at r0 r1 r2 r3 r4 r5 r6 r7
      clear rr
      go_wp2_with fail
      refine (EX2 _).mono ?_
      rintro o w2 ⟨rfl, b2⟩
      have HK2 : Hid (KW w w2 A B) := HK1.out.step b2
      clear b2
      clear sz a0 a1 fr r0 r1 r2 r3 r4 r5 r6 r7
      obtain ⟨_, sz, a0, a1, rr, fr⟩ := HK2.out
      have r0 := rr 0
      have r1 := rr 1
      have r2 := rr 2
      have r3 := rr 3
      have r4 := rr 4
      have r5 := rr 5
      have r6 := rr 6
      have r7 := rr 7
      simp only [aC   ] at r0 r1 r2 r3 r4 r5 r6 r7
      clear rr
      go_wp2_with fail
      refine (HX2 _).mono ?_
      rintro o w3 ⟨rfl, b3⟩
      have HK3 : Hid (KW w w3 A B) := HK2.out.step b3
      clear b3
      clear sz a0 a1 fr r0 r1 r2 r3 r4 r5 r6 r7
      obtain ⟨_, sz, a0, a1, rr, fr⟩ := HK3.out
      have r0 := rr 0
      have r1 := rr 1
      have r2 := rr 2
      have r3 := rr 3
      have r4 := rr 4
      have r5 := rr 5
      have r6 := rr 6
      have r7 := rr 7
      simp only [aC   ] at r0 r1 r2 r3 r4 r5 r6 r7
      clear rr
      go_wp2
      refine bodyPost_ret (v := .tuple #[.agg #[.bool false, .int .i64 2, .string ⟨#[]⟩, .int .i64 0, .bool false, .int .u64 D1, .int .i64 D2, .bool D3], .int .i64 ((3 : Int) + (n : Int) + (m : Int))]) (by simp [results, Tryz.results71, go_sem, *]) rfl ⟨by simp, ?_⟩
      repeat (refine Below.setCell ?_ bC     _)
      exact HK3.out.bel
theorem aIT     (g r : List UInt8) (hl : r.length ≤ 140737488351256) (w : World) : Calls Tryz.prog 71 #[.agg #[.string (sB g), .string (sB r)]] w fun e w' => e = .returned (kV (aQ   r)) ∧ Below w.heap.size w w' := by
  cases hx : isX r with
  | false => exact aIU     g r hl hx w
  | true =>
    cases hj : jnB (r.drop 2) with
    | false => exact aEe       g r hl hx hj w
    | true => exact aGE      g r hl hx hj w
def iY (m x:Int) (c:Bool):Array Value:=#[.bool false,vI 2,.string ⟨#[]⟩,vI 0,.bool false,vU m,vI x,.bool c]
structure XW (w wr:World) (m x:Int) (c:Bool):Prop where
 bel:Bl w wr
 sz:w.heap.size+1<wr.heap.size
 p:∀ o,wr.cell? ⟨w.heap.size+1,o,none⟩=(iY m x c)[o]?
 pf:∀ o,wr.frozen? ⟨w.heap.size+1,o,none⟩=false
 r:∀ o,wr.cell? ⟨w.heap.size,o,none⟩=aC[o]?
 fr:∀ o,wr.frozen? ⟨w.heap.size,o,none⟩=false
theorem XW.start (w:World):XW w ((w.alloc (.cells aC 43)).alloc (.cells (iY 0 0 false) 43)) 0 0 false:=by
 refine ⟨(bz _ _).alloc (by simp) _,by simp,fun o=>?_,fun o=>?_,fun o=>?_,fun o=>?_⟩
 . rw [World.cell?_alloc_at _ _ _ _ (by simp)]
 . simp [go_sem]
 . rw [World.cell?_alloc_past _ _ _ (by simp),World.cell?_alloc_at _ _ _ _ rfl]
 . simp [go_sem]
theorem XW.set {w wr:World}{m x m2 x2:Int}{c c2:Bool}(h:XW w wr m x c) {i:Nat}{v:Value}(hi:(iY m x c)[i]?.isSome=true) (hv:∀ o,(iY m2 x2 c2)[o]?=if o=i then some v else (iY m x c)[o]?):XW w (wr.setCell ⟨w.heap.size+1,i,none⟩ v) m2 x2 c2:=by
 have hs:=h.sz
 refine ⟨h.bel.setCell (by show w.heap.size<=w.heap.size+1;omega) v,by rw [World.size_setCell];exact hs,fun o=>?_,fun o=>?_,fun o=>?_,fun o=>?_⟩
 . rw [hv]
   by_cases z:o=i
   . subst z
     rw [if_pos rfl]
     obtain ⟨y,hy⟩:=Option.isSome_iff_exists.1 hi
     exact World.cell?_setCell_same wr ⟨w.heap.size+1,o,none⟩ v ((h.p o).trans hy)
   . rw [if_neg z,World.cell?_setCell_other wr ⟨w.heap.size+1,i,none⟩ ⟨w.heap.size+1,o,none⟩ v (by intro q;injection q with _ q _;exact z q.symm)]
     exact h.p o
 . rw [World.frozen?_setCell];exact h.pf o
 . rw [World.cell?_setCell_other wr ⟨w.heap.size+1,i,none⟩ ⟨w.heap.size,o,none⟩ v (by intro q;injection q with q _ _;omega)]
   exact h.r o
 . rw [World.frozen?_setCell];exact h.fr o
theorem XW.mant {w wr : World} {m x : Int} {c : Bool} (h : XW w wr m x c) (m2 : Int) : XW w (wr.setCell ⟨w.heap.size + 1, 5, none⟩ (.int .u64 m2)) m2 x c := by
  refine h.set rfl (fun o => ?_)
  match o with
  | 0 | 1 | 2 | 3 | 4 | 5 | 6 | 7 => rfl
  | n + 8 =>
    rw [if_neg (by omega)]
    rfl
theorem XW.cutB {w wr : World} {m x : Int} {c : Bool} (h : XW w wr m x c) (c2 : Bool) : XW w (wr.setCell ⟨w.heap.size + 1, 7, none⟩ (.bool c2)) m x c2 := by
  refine h.set rfl (fun o => ?_)
  match o with
  | 0 | 1 | 2 | 3 | 4 | 5 | 6 | 7 => rfl
  | n + 8 =>
    rw [if_neg (by omega)]
    rfl
theorem aMy {w:World}{o:Nat}:w.heap.size<=(⟨w.heap.size,o,none⟩:Addr).block:=Nat.le_refl _
theorem aEg (W P:List UInt8) (hl:W.length+P.length<=140737488351232) (e:Int) (h:nz (W ++ P)=(W ++ P).length) (w:World):Cb 56 #[.string (sB W),.string (sB P),vI e] w (spV (cV W P e)):=by
 have ap:=fQ W P
 have hsum:¬ 9223372036854775807<(sB W).size+(sB P).size:=by rw [aA,aA];omega
 have NZ:∀ V,Cs 85 #[.string (sB (W ++ P))] V (vI ((sB (W ++ P)).size:Int)):=fun V=>by
  have:=lC (sB (W ++ P)) (by rw [aA,List.length_append];exact hl) V
  rw [bR,h] at this
  exact this
 rw [tZ h]
 clear hl h
 generalize sB (W ++ P)=u at *
 generalize sB W=s at *
 generalize sB P=t at *
 go_enter Tryz.func56,Tryz.ntmps56
 go_wp2_with fail
 refine (NZ _).mono ?_
 rintro o w1 ⟨rfl,rfl⟩
 go_wp2
 refine bodyPost_ret (v:=.agg #[.bool false,vI 2,.string ⟨#[]⟩,vI 0,.bool false,vU 0,vI 0,.bool false]) (by simp [results,Tryz.results56,go_sem]) rfl ⟨rfl,?_⟩
 exact bz _ _
theorem aEf       (W P : List UInt8) (hl : W.length + P.length ≤ 140737488351232) (hd : ∀ c ∈ W ++ P, isD 16 c = true) (e : Int) (he0 : -1099511627776 ≤ e) (he9 : e ≤ 1099511627776) (h : nz (W ++ P) ≠ (W ++ P).length) (w : World) : Calls Tryz.prog 56 #[.string (sB W), .string (sB P), .int .i64 e] w fun o w' => o = .returned (spV (cV   W P e)) ∧ Below w.heap.size w w' := by
  have ap := fQ        W P
  have hsum : ¬ 9223372036854775807 < (sB W).size + (sB P).size := by rw [aA     , aA     ]; omega
  have hlen : (W ++ P).length ≤ 140737488351232 := by rw [List.length_append]; exact hl
  have NZ : ∀ V, Calls Tryz.prog 85 #[.string (sB (W ++ P))] V fun e w' => e = .returned (.int .i64 (nz (W ++ P) : Int)) ∧ w' = V := fun V => lC         (sB (W ++ P)) hlen V
  have hb : (sB (W ++ P)).size ≤ 140737488351232 := hlen
  have hz := cW    (W ++ P)
  have BD := fun V => rZ      (e + 4 * (((sB W).size : Int) - hxK (W ++ P))) V
  have hWs : (sB W).size ≤ 140737488351232 := by rw [aA     ]; omega
  have HK : Hid (hxK (W ++ P) = min (nz (W ++ P) + 16) (W ++ P).length) := rfl
  have HM : Hid (hxM (W ++ P) = av 16 0 (((W ++ P).take (hxK (W ++ P))).drop (nz (W ++ P)))) := rfl
  have HU : Hid ((sB (W ++ P)).size = (W ++ P).length ∧ (∀ k (h : k < (W ++ P).length) (h' : k < (sB (W ++ P)).size), (sB (W ++ P))[k]'h' = (W ++ P)[k]'h) ∧ ∀ c ∈ W ++ P, isD 16 c = true) := ⟨rfl, fun _ _ _ => rfl, hd⟩
  rw [tY        h, show (W.length : Int) = ((sB W).size : Int) from rfl]
  have HC : Hid (hxC (W ++ P) = anz ((W ++ P).drop (hxK (W ++ P)))) := rfl
  generalize ctI (e + 4 * (((sB W).size : Int) - hxK (W ++ P))) = X at *
  generalize hxC (W ++ P) = Y at *
  generalize hxM (W ++ P) = M at *
  generalize hxK (W ++ P) = K at *
  generalize hzz : nz (W ++ P) = z at *
  generalize W ++ P = a at *
  generalize sB a = u at *
  generalize sB W = s at *
  generalize sB P = t at *
  clear hzz hl hd
  have hua : u.size = a.length := HU.out.1
  have e1 : ((z : Int) == (u.size : Int)) = false := beq_eq_false_iff_ne.mpr (by omega)
  have hK1 : K ≤ u.size := by have := HK.out; omega
  have hK2 : z ≤ K := by have := HK.out; omega
  have hK3 : K ≤ z + 16 := by have := HK.out; omega
  have e4 : wrap64 ((s.size : Int) - (K : Int)) = (s.size : Int) - (K : Int) := by unfold wrap64; omega
  have e5 : wrap64 (4 * ((s.size : Int) - (K : Int))) = 4 * ((s.size : Int) - (K : Int)) := by unfold wrap64; omega
  have e6 : wrap64 (e + 4 * ((s.size : Int) - (K : Int))) = e + 4 * ((s.size : Int) - (K : Int)) := by unfold wrap64; omega
  have HKK : Hid (min (u.size : Int) ((z : Int) + 16) = (K : Int)) := by have := HK.out; show _ = _; omega
  have hz8 : z ≤ 140737488351232 := by omega
  clear hua hz h hlen he0 he9
  have HAV : Hid (∀ k, z ≤ k → k ≤ K → av 16 0 ((a.take k).drop z) < 16 ^ (k - z)) := fun k h1 h2 => by
    have := wF    ((a.take k).drop z) (fun c hc => HU.out.2.2 c (List.mem_of_mem_take (List.mem_of_mem_drop hc))) 0
    have hl : ((a.take k).drop z).length = k - z := by rw [List.length_drop, List.length_take]; have := HU.out.1; omega
    rw [hl] at this
    omega
  have HX0 : Hid (XW w ((w.alloc (.cells aC    43)).alloc (.cells (iY   0 0 false) 43)) 0 0 false) := XW.start w
  unfold aC    iY   at HX0
  go_enter Tryz.func56, Tryz.ntmps56
  go_wp2_with fail
  refine (NZ _).mono ?_
  rintro o w1 ⟨rfl, rfl⟩
  go_wp2
  rw [HKK.out]
  go_loopw [11] (fun iv wr => ∃ (k m : Nat), z ≤ k ∧ k ≤ K ∧ iv = .int .i64 (k : Int) ∧ Hid (XW w wr (m : Int) 0 false) ∧ Hid (m = av 16 0 ((a.take k).drop z))) (fun iv _ => K - (intOf iv).toNat)
  case atStart => exact ⟨z, 0, Nat.le_refl _, hK2, rfl, HX0, by rw [List.drop_eq_nil_of_le (by rw [List.length_take]; omega)]; rfl⟩
  case round =>
    clear HX0
    obtain ⟨k, m, h1, h2, rfl, HXW, HI⟩ := hrel
    by_cases c1 : k < K
    · have i1 : (k : Int) < (K : Int) := by omega
      have i0 : (0 : Int) ≤ (k : Int) := by omega
      have hku : k < u.size := by omega
      have i2 : (k : Int) < (u.size : Int) := by omega
      have hka : k < a.length := by have := HU.out.1; omega
      have hg : u[k]'hku = a[k]'hka := HU.out.2.1 k hka hku
      have hdg0 := HU.out.2.2 _ (List.getElem_mem hka)
      have hdg : dv (a[k]'hka).toNat < 16 := of_decide_eq_true hdg0
      rw [aBr     rfl] at hdg0
      have hcl := of_decide_eq_true hdg0
      have hm60 : m < 1152921504606846976 := by
        rw [HI.out]
        have q := HAV.out k h1 h2
        have : (16 : Nat) ^ (k - z) ≤ 16 ^ 15 := Nat.pow_le_pow_right (by omega) (by omega)
        have e15 : (16 : Nat) ^ 15 = 1152921504606846976 := by decide
        omega
      have HI2 : Hid (m * 16 + dv (a[k]'hka).toNat = av 16 0 ((a.take (k + 1)).drop z)) := by
        show _ = _
        rw [fK             a h1 hka, lO       , ← HI.out]
        show _ = avs 16 m (a[k]'hka)
        rw [jH      (by omega)]
      have hor := aEM    m (dv (a[k]'hka).toNat) hm60 hdg
      have w16 : IntKind.u64.wrap ((m : Int) * 16) = (m : Int) * 16 := by rw [IntKind.wrap_u64]; omega
      have hdv : dv (a[k]'hka).toNat = if (a[k]'hka).toNat ≤ 57 then (a[k]'hka).toNat - 48 else if 97 ≤ (a[k]'hka).toNat then (a[k]'hka).toNat - 87 else (a[k]'hka).toNat - 55 := by
        unfold dv
        rcases hcl with q | q | q
        · rw [if_pos q, if_pos q.2]
        · rw [if_neg (by omega), if_pos (show 97 ≤ (a[k]'hka).toNat ∧ (a[k]'hka).toNat ≤ 122 by omega), if_neg (by omega), if_pos (by omega)]
        · rw [if_neg (by omega), if_neg (by omega), if_pos (show 65 ≤ (a[k]'hka).toNat ∧ (a[k]'hka).toNat ≤ 90 by omega), if_neg (by omega), if_neg (by omega)]
      have hx : ((((u[k]'hku).toNat : Nat) : Int)) = ((a[k]'hka).toNat : Int) := by rw [hg]
      clear hg HI hdg0
      generalize dv (a[k]'hka).toNat = d at *
      generalize (a[k]'hka).toNat = x at *
      obtain ⟨_, sz, pp, pf, _, _⟩ := HXW.out
      have p5 := pp 5
      have p7 := pp 7
      simp only [iY  ] at p5 p7
      clear pp
      by_cases y1 : x ≤ 57
      · rw [if_pos y1] at hdv
        have t1 : (x : Int) ≤ 57 := by omega
        have w8 : IntKind.u8.wrap ((x : Int) - 48) = (x : Int) - 48 := by
          unfold IntKind.wrap
          simp [IntKind.bits, IntKind.signed]
          omega
        have hd2 : (x : Int) - 48 = (d : Int) := by omega
        have w6 : IntKind.u64.wrap ((x : Int) - 48) = (x : Int) - 48 := by rw [IntKind.wrap_u64]; omega
        have hor2 : bits BinOp.or IntKind.u64 ((m : Int) * 16) ((x : Int) - 48) = ((m * 16 + d : Nat) : Int) := by rw [hd2]; exact hor
        clear hd2 hor hdv
        go_wp2
        go_roundw
        case rel => exact ⟨k + 1, m * 16 + d, by omega, by omega, by go_num, by first | exact HXW.out.mant _ | (have q := HXW.out.mant ((m * 16 + d : Nat) : Int); rw [← hor2] at q; exact q) | (have q := HXW.out.mant ((m * 16 + d : Nat) : Int); simpa using q), HI2.out⟩
        case measure => simp [intOf]; omega
      · rw [if_neg y1] at hdv
        have t1 : ¬ (x : Int) ≤ 57 := by omega
        by_cases y2 : 97 ≤ x
        · rw [if_pos y2] at hdv
          have t2 : (97 : Int) ≤ (x : Int) := by omega
          have w8 : IntKind.u8.wrap ((x : Int) - 97) = (x : Int) - 97 := by
            unfold IntKind.wrap
            simp [IntKind.bits, IntKind.signed]
            omega
          have hd2 : (x : Int) - 97 + 10 = (d : Int) := by omega
          have w6 : IntKind.u64.wrap ((x : Int) - 97) = (x : Int) - 97 := by rw [IntKind.wrap_u64]; omega
          have w7 : IntKind.u64.wrap ((x : Int) - 97 + 10) = (x : Int) - 97 + 10 := by rw [IntKind.wrap_u64]; omega
          have hor2 : bits BinOp.or IntKind.u64 ((m : Int) * 16) ((x : Int) - 97 + 10) = ((m * 16 + d : Nat) : Int) := by rw [hd2]; exact hor
          clear hd2 hor hdv
          go_wp2
          go_roundw
          case rel => exact ⟨k + 1, m * 16 + d, by omega, by omega, by go_num, by first | exact HXW.out.mant _ | (have q := HXW.out.mant ((m * 16 + d : Nat) : Int); rw [← hor2] at q; exact q) | (have q := HXW.out.mant ((m * 16 + d : Nat) : Int); simpa using q), HI2.out⟩
          case measure => simp [intOf]; omega
        · rw [if_neg y2] at hdv
          have t2 : ¬ (97 : Int) ≤ (x : Int) := by omega
          have w8 : IntKind.u8.wrap ((x : Int) - 65) = (x : Int) - 65 := by
            unfold IntKind.wrap
            simp [IntKind.bits, IntKind.signed]
            omega
          have hd2 : (x : Int) - 65 + 10 = (d : Int) := by omega
          have w6 : IntKind.u64.wrap ((x : Int) - 65) = (x : Int) - 65 := by rw [IntKind.wrap_u64]; omega
          have w7 : IntKind.u64.wrap ((x : Int) - 65 + 10) = (x : Int) - 65 + 10 := by rw [IntKind.wrap_u64]; omega
          have hor2 : bits BinOp.or IntKind.u64 ((m : Int) * 16) ((x : Int) - 65 + 10) = ((m * 16 + d : Nat) : Int) := by rw [hd2]; exact hor
          clear hd2 hor hdv
          go_wp2
          go_roundw
          case rel => exact ⟨k + 1, m * 16 + d, by omega, by omega, by go_num, by first | exact HXW.out.mant _ | (have q := HXW.out.mant ((m * 16 + d : Nat) : Int); rw [← hor2] at q; exact q) | (have q := HXW.out.mant ((m * 16 + d : Nat) : Int); simpa using q), HI2.out⟩
          case measure => simp [intOf]; omega
    · obtain rfl : k = K := by omega
      have i1 : ¬ (k : Int) < (k : Int) := by omega
      have HMM : Hid (m = M) := HI.out.trans HM.out.symm
      have hmm := HMM.out
      subst hmm
      have HXK : Hid (XW w wr (m : Int) 0 false) := HXW
      clear HI HM HAV HK HKK HMM HXW
      go_wp2
      go_loopw [14] (fun iv wr2 => ∃ (j : Nat) (c : Bool), k ≤ j ∧ j ≤ u.size ∧ iv = .int .i64 (j : Int) ∧ Hid (XW w wr2 (m : Int) 0 c) ∧ Hid (c = anz ((a.take j).drop k))) (fun iv _ => u.size - (intOf iv).toNat)
      case atStart => exact ⟨k, false, Nat.le_refl _, hK1, rfl, HXK, by rw [List.drop_eq_nil_of_le (by rw [List.length_take]; omega)]; rfl⟩
      case round =>
        clear HXK
        obtain ⟨j, c, h3, h4, rfl, HXW, HI⟩ := hrel
        by_cases c2 : j < u.size
        · have i4 : (j : Int) < (u.size : Int) := by omega
          have i5 : (0 : Int) ≤ (j : Int) := by omega
          have hja : j < a.length := by have := HU.out.1; omega
          have hg : u[j]'c2 = a[j]'hja := HU.out.2.1 j hja c2
          have HS : Hid (anz ((a.take (j + 1)).drop k) = (anz ((a.take j).drop k) || (a[j]'hja != 48))) := by
            show _ = _
            rw [fK             a h3 hja]
            unfold anz
            rw [List.any_append]; simp
          obtain ⟨_, sz, pp, pf, _, _⟩ := HXW.out
          have p5 := pp 5
          have p7 := pp 7
          simp only [iY  ] at p5 p7
          clear pp
          cases c with
          | true =>
            have HI2 : Hid (true = anz ((a.take (j + 1)).drop k)) := by show _ = _; rw [HS.out, ← HI.out]; rfl
            clear HS hg HI
            go_wp2
            go_roundw
            case rel => exact ⟨j + 1, true, by omega, by omega, by go_num, HXW.out.cutB true, HI2⟩
            case measure => simp [intOf]; omega
          | false =>
            by_cases y : a[j]'hja = 48
            · have x9 : ((((u[j]'c2).toNat : Nat) : Int)) = 48 := by rw [hg, y]; rfl
              have HI2 : Hid (false = anz ((a.take (j + 1)).drop k)) := by show _ = _; rw [HS.out, ← HI.out, y]; rfl
              clear HS hg HI y
              go_wp2
              go_roundw
              case rel => exact ⟨j + 1, false, by omega, by omega, by go_num, HXW.out.cutB false, HI2⟩
              case measure => simp [intOf]; omega
            · have x8 : ((((u[j]'c2).toNat : Nat) : Int) != 48) = true := by
                rw [hg]
                exact bne_iff_ne.mpr fun q => y (UInt8.toNat_inj.1 (Int.ofNat_inj.1 q))
              have HI2 : Hid (true = anz ((a.take (j + 1)).drop k)) := by show _ = _; rw [HS.out, ← HI.out, show (a[j]'hja != 48) = true from bne_iff_ne.mpr y]; rfl
              clear HS hg HI y
              go_wp2
              go_roundw
              case rel => exact ⟨j + 1, true, by omega, by omega, by go_num, HXW.out.cutB true, HI2⟩
              case measure => simp [intOf]; omega
        · obtain rfl : j = u.size := by omega
          have i4 : ¬ (u.size : Int) < (u.size : Int) := by omega
          have HCC : Hid (c = Y) := by
            show _ = _
            rw [HI.out, HC.out, List.take_of_length_le (by have := HU.out.1; omega)]
          have hcc := HCC.out
          subst hcc
          clear HI HC HCC
          obtain ⟨_, sz, pp, pf, rr, fr⟩ := HXW.out
          have p0 := pp 0
          have p1 := pp 1
          have p2 := pp 2
          have p3 := pp 3
          have p4 := pp 4
          have p5 := pp 5
          have p6 := pp 6
          have p7 := pp 7
          have r0 := rr 0
          have r1 := rr 1
          have r2 := rr 2
          have r3 := rr 3
          have r4 := rr 4
          have r5 := rr 5
          have r6 := rr 6
          have r7 := rr 7
          simp only [aC   , iY  ] at p0 p1 p2 p3 p4 p5 p6 p7 r0 r1 r2 r3 r4 r5 r6 r7
          clear pp rr
          go_wp2_with fail
          refine (BD _).mono ?_
          rintro o w2 ⟨rfl, rfl⟩
          go_wp2
          refine bodyPost_ret (v := .agg #[.bool false, .int .i64 2, .string ⟨#[]⟩, .int .i64 0, .bool false, .int .u64 (m : Int), .int .i64 X, .bool c]) (by simp [results, Tryz.results56, go_sem, *]) rfl ⟨rfl, ?_⟩
          iterate 8 (refine Below.setCell ?_ aMy   _)
          refine Below.setCell ?_ bC     _
          exact HXW.out.bel
theorem aGF (W P:List UInt8) (hl:W.length+P.length<=140737488351232) (hd:∀ c ∈ W ++ P,isD 16 c=true) (e:Int) (he0:-1099511627776<=e) (he9:e<=1099511627776) (w:World):Cb 56 #[.string (sB W),.string (sB P),vI e] w (spV (cV W P e)):=by
 by_cases h:nz (W ++ P)=(W ++ P).length
 . exact aEg W P hl e h w
 . exact aEf W P hl hd e he0 he9 h w
def aB3 (g:Bool) (k:Int):Array Value:=#[.bool g,vI k,.string ⟨#[]⟩,vI 0,.bool false,vU 0,vI 0,.bool false]
structure QW (w wr:World) (g:Bool) (k:Int):Prop where
 bel:Bl w wr
 sz:w.heap.size+1<wr.heap.size
 p:∀ o,wr.cell? ⟨w.heap.size+1,o,none⟩=(aB3 g k)[o]?
 pf:∀ o,wr.frozen? ⟨w.heap.size+1,o,none⟩=false
 r:∀ o,wr.cell? ⟨w.heap.size,o,none⟩=aC[o]?
 fr:∀ o,wr.frozen? ⟨w.heap.size,o,none⟩=false
theorem QW.start (w:World) (g:Bool):QW w ((w.alloc (.cells aC 43)).alloc (.cells (aB3 g 0) 43)) g 0:=by
 refine ⟨(bz _ _).alloc (by simp) _,by simp,fun o=>?_,fun o=>?_,fun o=>?_,fun o=>?_⟩
 . rw [World.cell?_alloc_at _ _ _ _ (by simp)]
 . simp [go_sem]
 . rw [World.cell?_alloc_past _ _ _ (by simp),World.cell?_alloc_at _ _ _ _ rfl]
 . simp [go_sem]
theorem QW.step {w wr w2:World}{g:Bool}{k:Int}(h:QW w wr g k) (hb:Bl wr w2):QW w w2 g k:=by
 have s:=h.sz
 exact ⟨h.bel.trans (hb.mono (by omega)),by have:=hb.size;omega,
  fun o=>(hb.cell (p:=⟨w.heap.size+1,o,none⟩) (by show w.heap.size+1<_;omega)).trans (h.p o),fun o=>(hb.frozen (p:=⟨w.heap.size+1,o,none⟩) (by show w.heap.size+1<_;omega)).trans (h.pf o),
  fun o=>(hb.cell (p:=⟨w.heap.size,o,none⟩) (by show w.heap.size<_;omega)).trans (h.r o),fun o=>(hb.frozen (p:=⟨w.heap.size,o,none⟩) (by show w.heap.size<_;omega)).trans (h.fr o)⟩
theorem QW.kind {w wr:World}{g:Bool}{k:Int}(h:QW w wr g k) (k2:Int):QW w (wr.setCell ⟨w.heap.size+1,1,none⟩ (vI k2)) g k2:=by
 have hs:=h.sz
 refine ⟨h.bel.setCell (by show w.heap.size<=w.heap.size+1;omega) _,by rw [World.size_setCell];exact hs,fun o=>?_,fun o=>?_,fun o=>?_,fun o=>?_⟩
 . by_cases z:o=1
   . subst z
     exact World.cell?_setCell_same wr ⟨w.heap.size+1,1,none⟩ _ (h.p 1)
   . rw [World.cell?_setCell_other wr ⟨w.heap.size+1,1,none⟩ ⟨w.heap.size+1,o,none⟩ _ (by intro q;injection q with _ q _;exact z q.symm),h.p o]
     match o,z with
     | 0,_=>rfl
     | 1,z=>exact absurd rfl z
     | 2,_=>rfl
     | 3,_=>rfl
     | 4,_=>rfl
     | 5,_=>rfl
     | 6,_=>rfl
     | 7,_=>rfl
     | n+8,_=>rfl
 . rw [World.frozen?_setCell];exact h.pf o
 . rw [World.cell?_setCell_other wr ⟨w.heap.size+1,1,none⟩ ⟨w.heap.size,o,none⟩ _ (by intro q;injection q with q _ _;omega)]
   exact h.r o
 . rw [World.frozen?_setCell];exact h.fr o
theorem oF {w:World}{o:Nat}:w.heap.size<=(⟨w.heap.size,o,none⟩:Addr).block:=Nat.le_refl _
def agP (g:Bool) (k:Int) (d:ByteArray) (p:Int) (c:Bool) (m x:Int) (t:Bool):Value:=.agg #[.bool g,vI k,.string d,vI p,.bool c,vU m,vI x,.bool t]
theorem sV {w:World}{o:Nat}:w.heap.size<=(⟨w.heap.size,o,none⟩:Addr).block:=Nat.le_refl _
theorem aFn       {D : List UInt8} (h : nz D = 0) : (sB (shT D)).toList.isEmpty = D.isEmpty := by
  rw [oY      ]
  cases D with
  | nil => rfl
  | cons c r =>
    have := (rH     (D := c :: r) (by simp) h).1
    cases q : shT (c :: r) with
    | nil => exact absurd q this
    | cons a t => rfl
theorem aLo {W P:List UInt8}{i:Nat}(h:i<(W ++ P).length):(plD W P)[i]'(by rw [fC,<- List.length_append];exact h)=pln ((W ++ P)[i]'h):=by
 unfold plD;rw [List.getElem_map]
theorem aHh {W P:List UInt8}{i:Nat}(h:i<(W ++ P).length):(plD W P).take (i+1)=(plD W P).take i ++ [pln ((W ++ P)[i]'h)]:=by
 rw [List.take_succ_eq_append_getElem (by rw [fC,<- List.length_append];exact h),aLo h]
def deW (W P:List UInt8) (e:Int):Value:=match decide (nz (plD W P)<=1099511627776) with
 | true=>deV W P e
 | false=>.agg #[.string ⟨#[]⟩,vI 0,.bool false]
theorem pC {W P:List UInt8}(h:nz (plD W P)<=1099511627776) (e:Int):deW W P e=deV W P e:=by unfold deW;rw [decide_eq_true h]
theorem sC {W P:List UInt8}(h:1099511627776<nz (plD W P)) (e:Int):deW W P e=.agg #[.string ⟨#[]⟩,vI 0,.bool false]:=by unfold deW;rw [decide_eq_false (by omega)]
theorem aIp {W P:List UInt8}(h:dgF W P=[]) (e:Int):deW W P e=.agg #[.string ⟨#[]⟩,vI 0,.bool false]:=by
 rcases Nat.lt_or_ge 1099511627776 (nz (plD W P)) with q | q
 . exact sC q e
 . rw [pC q,xO h]
theorem aDy (W P:List UInt8) (e:Int):∃ (d:ByteArray) (p:Int) (c:Bool),deW W P e=.agg #[.string d,vI p,.bool c]/\(nz (plD W P)<=1099511627776 -> d=sB (dcT W P)/\p=dcP W P e/\c=dcC W P):=by
 rcases Nat.lt_or_ge 1099511627776 (nz (plD W P)) with q | q
 . exact ⟨_,_,_,sC q e,fun h=>by omega⟩
 . exact ⟨sB (dcT W P),dcP W P e,dcC W P,pC q e,fun _=>⟨rfl,rfl,rfl⟩⟩
theorem aHq (W P:List UInt8) (hl:W.length+P.length<=140737488351232) (e:Int) (w:World):Cb 57 #[.string (sB W),.string (sB P),vI e] w (deW W P e):=by
 obtain ⟨ii,hi,hz0,hz1,hz2⟩:=info_parts nU
 have hpl:=fC W P
 have MK:=fun V=>aFe (plD W P) (by omega) (aBC W P) V
 have hnz:=cW (plD W P)
 have NZ:∀ V,Cs 85 #[.string (sB (plD W P))] V (vI (nz (plD W P):Int)):=fun V=>lC (sB (plD W P)) (by rw [aA];omega) V
 have CE:=fun V=>rZ e V
 have ci:=lW e
 have hgd:(plD W P).drop (nz (plD W P))=dgF W P:=rfl
 have hE:=aFn (NZD (plD W P))
 rw [hgd] at MK hE
 have HL:Hid ((W ++ P).length=W.length+P.length):=List.length_append
 have hWs:(sB W).size<=140737488351232:=by rw [aA];omega
 have hPs:(sB P).size<=140737488351232:=by rw [aA];omega
 have HW:Hid ((sB W).size=W.length/\(sB P).size=P.length/\(∀ k (h:k<W.length) (h':k<(sB W).size),(sB W)[k]'h'=W[k]'h)/\(∀ k (h:k<P.length) (h':k<(sB P).size),(sB P)[k]'h'=P[k]'h)):=⟨rfl,rfl,fun _ _ _=>rfl,fun _ _ _=>rfl⟩
 have HS:Hid (W.length+P.length<=140737488351232/\(plD W P).length=W.length+P.length/\nz (plD W P)<=140737488351232/\nz (plD W P)<=(plD W P).length):=⟨hl,hpl,by omega,hnz⟩
 have HDE:Hid (deV W P e=dcV (sB (shT (dgF W P))) (dcP W P e) (anz ((dgF W P).drop 800))):=rfl
 have HDP:Hid (dcP W P e=if dgF W P=[] then 0 else ctI (ctI e+W.length - nz (plD W P))):=rfl
 have HDZ:Hid (nz (plD W P)=(plD W P).length ↔ dgF W P=[]):=by
  show _ ↔ _
  unfold dgF
  rw [List.drop_eq_nil_iff]
  omega
 have CP:=fun V=>rZ (ctI e+(sB W).size - nz (plD W P)) V
 have w1':wrap64 (ctI e+((sB W).size:Int))=ctI e+((sB W).size:Int):=by unfold wrap64;omega
 have w2':wrap64 (ctI e+((sB W).size:Int) - (nz (plD W P):Int))=ctI e+((sB W).size:Int) - (nz (plD W P):Int):=by unfold wrap64;omega
 obtain ⟨W0,hW0⟩:∃ W0,W0=w.alloc (.cells #[.string ⟨#[]⟩,vI 0,.bool false] 41):=⟨_,rfl⟩
 have HW0:Hid (W0=w.alloc (.cells #[.string ⟨#[]⟩,vI 0,.bool false] 41)):=hW0
 have B1:Hid (RB W0 (w.alloc (.cells #[.string ⟨#[]⟩,vI 0,.bool false] 41)) (.slice none 0 0) []/\[]=(plD W P).take 0/\([]:List UInt8).length=0):=by
  rw [<- hW0]
  exact ⟨⟨World.ownsRow_nil _ _ _ _,Below.refl _ _⟩,rfl,rfl⟩
 have DGc:=fun c V=>rE c false V
 rw [show bs false=10 from rfl] at DGc
 clear hW0 hl hpl hnz hgd
 generalize hsW:sB W=s at *
 generalize hsP:sB P=t at *
 clear hsW hsP
 go_enter Tryz.func57,Tryz.ntmps57
 go_wp2
 go_loopw [7,8] (fun v iv wr=>∃ (i:Nat) (oo:List UInt8),i<=W.length+P.length/\iv=vI (i:Int)/\Hid (RB W0 wr v oo/\oo=(plD W P).take i/\oo.length=i)) (fun _ iv _=>W.length+P.length - (intOf iv).toNat)
 case atStart=>exact ⟨0,[],Nat.zero_le _,rfl,B1⟩
 case round =>
  clear B1
  obtain ⟨i,oo,hi1,rfl,B3⟩:=hrel
  have hi8:i<=140737488351232:=by have:=HS.out.1;omega
  have HZ:Hid (W0.heap.size<=wr.heap.size):=B3.out.1.bel.size
  by_cases c1:i<W.length+P.length
  . have hiL:i<(W ++ P).length:=by rw [HL.out];exact c1
    have i1:(i:Int)<(s.size:Int)+(t.size:Int):=by have:=HW.out.1;have:=HW.out.2.1;omega
    have i0:(0:Int)<=(i:Int):=by omega
    have HPS:Hid ((plD W P).take (i+1)=(plD W P).take i ++ [pln ((W ++ P)[i]'hiL)]):=aHh hiL
    obtain ⟨x,hx⟩:∃ x,(W ++ P)[i]'hiL=x:=⟨_,rfl⟩
    rw [hx] at HPS
    have D1:=fun V=>DGc x V
    clear DGc MK NZ CE CP HDE HDP HDZ
    by_cases c2:i<W.length
    . have hs1:i<s.size:=by have:=HW.out.1;omega
      have i2:(i:Int)<(s.size:Int):=by omega
      have hcx:((((s[i]'hs1).toNat:Nat):Int))=(x.toNat:Int):=by
       rw [HW.out.2.2.1 i c2 hs1,<- hx,List.getElem_append_left c2]
      clear hx
      rcases Bool.eq_false_or_eq_true (isD 10 x) with q | q
      . rw [q] at D1
        have HP:Hid (pln x=x):=by show (if _ then _ else _)=_;rw [if_pos q]
        clear q
        go_wp2_with fail
        refine (D1 _).mono ?_
        rintro e wr ⟨rfl,rfl⟩
        go_wp2_with (first | (at_builtin;refine wpList_append_own _ rfl _ _ 157 rfl W0.heap.size 5 ii (.int .u8 0) 1 1 fU hi hz0 hz1 hz2 rfl (by decide) _ _ _ rfl (B3.out.1.own.alloc _) ⟨wr.heap.size,0,none⟩ 1 1 [.int .u8 (x.toNat:Int)] rfl rfl (World.news_of_block (cs:=#[.int .u8 (x.toNat:Int)]) (t:=5) (fr:=(0,0)) (heap_alloc_new _ _)) (by simp [Value.oneCell']) (by have:=B3.out.2.2;unfold maxLen;simp;omega) (by have:=B3.out.2.2;simp;omega) (by have:=HZ.out;simp;omega) ?_) | go_in)
        intro v5 w5 ho5 hg5 _
        have B5:Hid (RB W0 w5 v5 (oo ++ [x])/\oo ++ [x]=(plD W P).take (i+1)/\(oo ++ [x]).length=i+1):=by
         refine ⟨B3.out.1.app (m:=[x]) ho5 hg5,?_,?_⟩
         . rw [HPS.out,HP.out,B3.out.2.1]
         . rw [List.length_append,B3.out.2.2];rfl
        clear ho5 hg5
        go_wp2
        go_roundw
        case rel=>exact ⟨i+1,_,by omega,by go_num,B5⟩
        case measure=>simp [intOf];omega
      . rw [q] at D1
        have HP:Hid (pln x=48):=by show (if _ then _ else _)=_;rw [if_neg (by rw [q];decide)]
        clear q
        go_wp2_with fail
        refine (D1 _).mono ?_
        rintro e wr ⟨rfl,rfl⟩
        go_wp2_with (first | (at_builtin;refine wpList_append_own _ rfl _ _ 157 rfl W0.heap.size 5 ii (.int .u8 0) 1 1 fU hi hz0 hz1 hz2 rfl (by decide) _ _ _ rfl (B3.out.1.own.alloc _) ⟨wr.heap.size,0,none⟩ 1 1 [.int .u8 48] rfl rfl (World.news_of_block (cs:=#[.int .u8 48]) (t:=5) (fr:=(0,0)) (heap_alloc_new _ _)) (by simp [Value.oneCell']) (by have:=B3.out.2.2;unfold maxLen;simp;omega) (by have:=B3.out.2.2;simp;omega) (by have:=HZ.out;simp;omega) ?_) | go_in)
        intro v5 w5 ho5 hg5 _
        have B5:Hid (RB W0 w5 v5 (oo ++ [48])/\oo ++ [48]=(plD W P).take (i+1)/\(oo ++ [48]).length=i+1):=by
         refine ⟨B3.out.1.app (m:=[48]) ho5 hg5,?_,?_⟩
         . rw [HPS.out,HP.out,B3.out.2.1]
         . rw [List.length_append,B3.out.2.2];rfl
        clear ho5 hg5
        go_wp2
        go_roundw
        case rel=>exact ⟨i+1,_,by omega,by go_num,B5⟩
        case measure=>simp [intOf];omega
    . have i2:¬ (i:Int)<(s.size:Int):=by have:=HW.out.1;omega
      have hp1:i - s.size<t.size:=by have:=HW.out.1;have:=HW.out.2.1;omega
      have hpl:i - W.length<P.length:=by omega
      have i3:((i:Int) - (s.size:Int)).toNat=i - s.size:=by have:=HW.out.1;omega
      have i4:(0:Int)<=(i:Int) - (s.size:Int):=by omega
      have i5:(i:Int) - (s.size:Int)<(t.size:Int):=by omega
      have hcx:((((t[i - s.size]'hp1).toNat:Nat):Int))=(x.toNat:Int):=by
       have e1:t[i - s.size]'hp1=P[i - W.length]'hpl:=by
        rw [<- HW.out.2.2.2 (i - W.length) hpl (by have:=HW.out.1;omega)]
        congr 1
        have:=HW.out.1;omega
       rw [e1,<- hx,List.getElem_append_right (by omega)]
      clear hx hpl
      rcases Bool.eq_false_or_eq_true (isD 10 x) with q | q
      . rw [q] at D1
        have HP:Hid (pln x=x):=by show (if _ then _ else _)=_;rw [if_pos q]
        clear q
        go_wp2_with fail
        refine (D1 _).mono ?_
        rintro e wr ⟨rfl,rfl⟩
        go_wp2_with (first | (at_builtin;refine wpList_append_own _ rfl _ _ 157 rfl W0.heap.size 5 ii (.int .u8 0) 1 1 fU hi hz0 hz1 hz2 rfl (by decide) _ _ _ rfl (B3.out.1.own.alloc _) ⟨wr.heap.size,0,none⟩ 1 1 [.int .u8 (x.toNat:Int)] rfl rfl (World.news_of_block (cs:=#[.int .u8 (x.toNat:Int)]) (t:=5) (fr:=(0,0)) (heap_alloc_new _ _)) (by simp [Value.oneCell']) (by have:=B3.out.2.2;unfold maxLen;simp;omega) (by have:=B3.out.2.2;simp;omega) (by have:=HZ.out;simp;omega) ?_) | go_in)
        intro v5 w5 ho5 hg5 _
        have B5:Hid (RB W0 w5 v5 (oo ++ [x])/\oo ++ [x]=(plD W P).take (i+1)/\(oo ++ [x]).length=i+1):=by
         refine ⟨B3.out.1.app (m:=[x]) ho5 hg5,?_,?_⟩
         . rw [HPS.out,HP.out,B3.out.2.1]
         . rw [List.length_append,B3.out.2.2];rfl
        clear ho5 hg5
        go_wp2
        go_roundw
        case rel=>exact ⟨i+1,_,by omega,by go_num,B5⟩
        case measure=>simp [intOf];omega
      . rw [q] at D1
        have HP:Hid (pln x=48):=by show (if _ then _ else _)=_;rw [if_neg (by rw [q];decide)]
        clear q
        go_wp2_with fail
        refine (D1 _).mono ?_
        rintro e wr ⟨rfl,rfl⟩
        go_wp2_with (first | (at_builtin;refine wpList_append_own _ rfl _ _ 157 rfl W0.heap.size 5 ii (.int .u8 0) 1 1 fU hi hz0 hz1 hz2 rfl (by decide) _ _ _ rfl (B3.out.1.own.alloc _) ⟨wr.heap.size,0,none⟩ 1 1 [.int .u8 48] rfl rfl (World.news_of_block (cs:=#[.int .u8 48]) (t:=5) (fr:=(0,0)) (heap_alloc_new _ _)) (by simp [Value.oneCell']) (by have:=B3.out.2.2;unfold maxLen;simp;omega) (by have:=B3.out.2.2;simp;omega) (by have:=HZ.out;simp;omega) ?_) | go_in)
        intro v5 w5 ho5 hg5 _
        have B5:Hid (RB W0 w5 v5 (oo ++ [48])/\oo ++ [48]=(plD W P).take (i+1)/\(oo ++ [48]).length=i+1):=by
         refine ⟨B3.out.1.app (m:=[48]) ho5 hg5,?_,?_⟩
         . rw [HPS.out,HP.out,B3.out.2.1]
         . rw [List.length_append,B3.out.2.2];rfl
        clear ho5 hg5
        go_wp2
        go_roundw
        case rel=>exact ⟨i+1,_,by omega,by go_num,B5⟩
        case measure=>simp [intOf];omega
  . obtain rfl:i=W.length+P.length:=by omega
    have i1:¬ ((W.length+P.length:Nat):Int)<(s.size:Int)+(t.size:Int):=by have:=HW.out.1;have:=HW.out.2.1;omega
    have tk:(plD W P).take (W.length+P.length)=plD W P:=List.take_of_length_le (by have:=HS.out.2.1;omega)
    have cv:=B3.out.1.text
    rw [B3.out.2.1,tk,show (⟨(plD W P).toArray⟩:ByteArray)=sB (plD W P) from rfl] at cv
    have HB3:Hid (Bl W0 wr):=B3.out.1.bel
    have hk9:nz (plD W P)<=140737488351232:=HS.out.2.2.1
    clear DGc tk
    generalize ((W.length+P.length:Nat):Int)=nn at *
    by_cases q:dgF W P=[]
    . have eE:(sB (shT (dgF W P))).toList.isEmpty=true:=by rw [hE,q];rfl
      have HV:Hid (deW W P e=.agg #[.string ⟨#[]⟩,vI 0,.bool false]):=aIp q e
      rw [if_pos (HDZ.out.2 q)] at MK
      have MK2:∀ V,Cb 88 #[.string (sB (plD W P)),vI 0,.bool false] V (.tuple #[.agg #[.string ⟨#[]⟩,vI 0,.bool false],vI 0]):=fun V=>MK V
      clear MK NZ CE CP HDE HDP HDZ eE hE q w1' w2'
      generalize sB (plD W P)=u at *
      go_wp2_with fail
      refine (MK2 _).mono ?_
      rintro o w2 ⟨rfl,b2⟩
      have HB2:Hid (Bl W0 w2):=HB3.out.trans (b2.mono HB3.out.size)
      clear b2
      have hb:=HB2.out
      rw [HW0.out] at hb
      have hs2:w.heap.size<w2.heap.size:=by have:=hb.size;simp at this;omega
      obtain ⟨hc,hf⟩:(∀ o,w2.cell? ⟨w.heap.size,o,none⟩=(w.alloc (.cells #[.string ⟨#[]⟩,vI 0,.bool false] 41)).cell? ⟨w.heap.size,o,none⟩)/\(∀ o,w2.frozen? ⟨w.heap.size,o,none⟩=(w.alloc (.cells #[.string ⟨#[]⟩,vI 0,.bool false] 41)).frozen? ⟨w.heap.size,o,none⟩) :=
       ⟨fun o=>hb.cell (p:=⟨w.heap.size,o,none⟩) (by simp),fun o=>hb.frozen (p:=⟨w.heap.size,o,none⟩) (by simp)⟩
      have HF:Hid (Bl w w2):=(bz _ _).trans (hb.mono (by simp))
      clear hb
      go_wp2
      refine bodyPost_ret (v:=.agg #[.string ⟨#[]⟩,vI 0,.bool false]) (by simp [results,Tryz.results57,go_sem,hc,hs2]) rfl ⟨by rw [HV.out],?_⟩
      refine Below.alloc ?_ (by simp;omega) _
      iterate 3 (refine Below.setCell ?_ sV _)
      exact HF.out
    . rcases Nat.lt_or_ge 1099511627776 (nz (plD W P)) with q9 | q9
      . have k9:=q9
        have HV:Hid (deW W P e=.agg #[.string ⟨#[]⟩,vI 0,.bool false]):=sC q9 e
        rw [if_neg (fun z=>q (HDZ.out.1 z))] at MK
        rw [oC q9] at MK
        have MK2:∀ V,Cb 88 #[.string (sB (plD W P)),vI 0,.bool false] V (.tuple #[.agg #[.string ⟨#[]⟩,vI 0,.bool false],vI 4]):=fun V=>MK V
        clear MK NZ CE CP HDE HDP HDZ hE q q9 k9 hk9 w1' w2'
        generalize sB (plD W P)=u at *
        go_wp2_with fail
        refine (MK2 _).mono ?_
        rintro o w2 ⟨rfl,b2⟩
        have HB2:Hid (Bl W0 w2):=HB3.out.trans (b2.mono HB3.out.size)
        clear b2
        have hb:=HB2.out
        rw [HW0.out] at hb
        have hs2:w.heap.size<w2.heap.size:=by have:=hb.size;simp at this;omega
        obtain ⟨hc,hf⟩:(∀ o,w2.cell? ⟨w.heap.size,o,none⟩=(w.alloc (.cells #[.string ⟨#[]⟩,vI 0,.bool false] 41)).cell? ⟨w.heap.size,o,none⟩)/\(∀ o,w2.frozen? ⟨w.heap.size,o,none⟩=(w.alloc (.cells #[.string ⟨#[]⟩,vI 0,.bool false] 41)).frozen? ⟨w.heap.size,o,none⟩) :=
         ⟨fun o=>hb.cell (p:=⟨w.heap.size,o,none⟩) (by simp),fun o=>hb.frozen (p:=⟨w.heap.size,o,none⟩) (by simp)⟩
        have HF:Hid (Bl w w2):=(bz _ _).trans (hb.mono (by simp))
        clear hb
        go_wp2
        refine bodyPost_ret (v:=.agg #[.string ⟨#[]⟩,vI 0,.bool false]) (by simp [results,Tryz.results57,go_sem,hc,hs2]) rfl ⟨by rw [HV.out],?_⟩
        refine Below.alloc ?_ (by simp;omega) _
        iterate 3 (refine Below.setCell ?_ sV _)
        exact HF.out
      . have eE:(sB (shT (dgF W P))).toList.isEmpty=false:=by
         rw [hE]
         cases hh:dgF W P with
         | nil=>exact absurd hh q
         | cons a t=>rfl
        have HV:Hid (deW W P e=.agg #[.string (sB (shT (dgF W P))),vI (ctI (ctI e+s.size - nz (plD W P))),.bool (anz ((dgF W P).drop 800))]):=by
         show _=_
         rw [pC q9,HDE.out,HDP.out,if_neg q,<- HW.out.1];rfl
        rw [if_neg (fun z=>q (HDZ.out.1 z)),kF q9] at MK
        clear HDE HDP HDZ hE q q9
        generalize sB (plD W P)=u at *
        generalize nz (plD W P)=z at *
        generalize sB (shT (dgF W P))=T at *
        generalize anz ((dgF W P).drop 800)=Y at *
        generalize ctI e=ce at *
        generalize hpp:ctI (ce+(s.size:Int) - (z:Int))=pp at *
        have HPP:Hid (ctI (ce+(s.size:Int) - (z:Int))=pp):=hpp
        clear hpp
        go_wp2_with fail
        refine (MK _).mono ?_
        rintro o w2 ⟨rfl,b2⟩
        have HB2:Hid (Bl W0 w2):=HB3.out.trans (b2.mono HB3.out.size)
        clear b2
        have hb:=HB2.out
        rw [HW0.out] at hb
        have hs2:w.heap.size<w2.heap.size:=by have:=hb.size;simp at this;omega
        obtain ⟨hc,hf⟩:(∀ o,w2.cell? ⟨w.heap.size,o,none⟩=(w.alloc (.cells #[.string ⟨#[]⟩,vI 0,.bool false] 41)).cell? ⟨w.heap.size,o,none⟩)/\(∀ o,w2.frozen? ⟨w.heap.size,o,none⟩=(w.alloc (.cells #[.string ⟨#[]⟩,vI 0,.bool false] 41)).frozen? ⟨w.heap.size,o,none⟩) :=
         ⟨fun o=>hb.cell (p:=⟨w.heap.size,o,none⟩) (by simp),fun o=>hb.frozen (p:=⟨w.heap.size,o,none⟩) (by simp)⟩
        have HF:Hid (Bl w w2):=(bz _ _).trans (hb.mono (by simp))
        clear hb
        go_wp2_with fail
        refine (CE _).mono ?_
        rintro o w3 ⟨rfl,rfl⟩
        go_wp2_with fail
        refine (NZ _).mono ?_
        rintro o w3 ⟨rfl,rfl⟩
        go_wp2_with fail
        refine (CP _).mono ?_
        rintro o w3 ⟨rfl,rfl⟩
        go_wp2
        refine bodyPost_ret (v:=.agg #[.string T,vI pp,.bool Y]) (by simp [results,Tryz.results57,go_sem,hc,hs2]) rfl ⟨by rw [HV.out],?_⟩
        refine Below.alloc ?_ (by simp;omega) _
        iterate 3 (refine Below.setCell ?_ sV _)
        exact HF.out
end Go.Proofs.YtejgpbhionadbaaGreatDoor
