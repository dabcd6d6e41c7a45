/-
  Holds: UScG.
-/
import Derived.Test.YteeobndfnkeldaaGreatDoorChecked
import Derived.WalkKit
import Derived.Deep.DeepMust
import Derived.Lib.Strings
import Derived.Lib.BufferWrite
import Derived.Deep.OwnRows
import Derived.Deep.RegionHeld3
import Derived.Deep.QuietTactic
import Derived.BigQuiet
import Derived.Deep.AppendLies
import Derived.Lib.ConvBytes
import Derived.Test.YteeobndfnkeldaaGreatDoorShelf
import Derived.Test.YteeobndfnkeldaaGreatDoorXe28
import Derived.Test.YteeobndfnkeldaaGreatDoorXe31
set_option maxRecDepth 100000
set_option maxHeartbeats 4000000
namespace Go.Proofs.YteeobndfnkeldaaGreatDoor
open Go.RowKit
def kV:Option (Pt × Nat) → Value
 | none=>.tuple #[.agg #[.bool false,vI 0,.string ⟨#[]⟩,vI 0,.bool false,vU 0,vI 0,.bool false],vI 0]
 | some (p,n)=>.tuple #[spV p,vI (n:Int)]
def zeroP:Array Value:=#[.bool false,vI 0,.string ⟨#[]⟩,vI 0,.bool false,vU 0,vI 0,.bool false]
structure KW (w wr:World) (A B:ByteArray):Prop where
 bel:Bl w wr
 sz:w.heap.size+1<wr.heap.size
 a0:wr.cell? ⟨w.heap.size,0,none⟩=some (.string A)
 a1:wr.cell? ⟨w.heap.size,1,none⟩=some (.string B)
 r:∀ o,wr.cell? ⟨w.heap.size+1,o,none⟩=zeroP[o]?
 fr:∀ o,wr.frozen? ⟨w.heap.size+1,o,none⟩=false
theorem KW.start (w:World) (A B:ByteArray):KW w ((w.alloc (.cells #[.string A,.string B] 177)).alloc (.cells zeroP 43)) A B:=by
 refine ⟨(bz _ _).alloc (by simp) _,by simp,by simp [go_sem],by simp [go_sem],fun o=>?_,fun o=>?_⟩
 · rw [World.cell?_alloc_at _ _ _ _ (by simp)]
 · simp [go_sem]
theorem KW.step {w wr w2:World}{A B:ByteArray}(h:KW w wr A B) (hb:Bl wr w2):KW w w2 A B:=by
 have s:=h.sz
 exact ⟨h.bel.trans (hb.mono (by omega)),by have:=hb.size;omega,(hb.cell (p:=⟨w.heap.size,0,none⟩) (by show w.heap.size<_;omega)).trans h.a0,(hb.cell (p:=⟨w.heap.size,1,none⟩) (by show w.heap.size<_;omega)).trans h.a1,
  fun o=>(hb.cell (p:=⟨w.heap.size+1,o,none⟩) (by show w.heap.size+1<_;omega)).trans (h.r o),fun o=>(hb.frozen (p:=⟨w.heap.size+1,o,none⟩) (by show w.heap.size+1<_;omega)).trans (h.fr o)⟩
theorem set_le {w:World}{o:Nat}:w.heap.size≤(⟨w.heap.size+1,o,none⟩:Addr).block:=by show w.heap.size≤w.heap.size+1;omega
theorem nan_any (g r : List UInt8) (hg : g.length ≤ 1) (hl : r.length ≤ 1048600) (w : World) : Calls Tryz.prog 101 #[.agg #[.string (sB g), .string (sB r)]] w fun e w' => e = .returned (kV (kNan (decide (0 < g.length)) r)) ∧ Below w.heap.size w w' := by
  have K0 := KW.start w (sB g) (sB r)
  have BG : ∀ W, Calls Tryz.prog 127 #[.string (sB r), .string ⟨#[110, 97, 110]⟩] W fun e w' => e = .returned (.bool (wdB wNan r)) ∧ Below W.heap.size W w' := fun W => begins_any (sB r) ⟨#[110, 97, 110]⟩ hl W
  by_cases h : 0 < g.length
  · have e0 : (sB g).toList.isEmpty = false := empty_false h
    have HV : Hid (kV (kNan (decide (0 < g.length)) r) = .tuple #[.agg zeroP, .int .i64 0]) := by
      show _ = _
      unfold kNan; rw [decide_eq_true h, if_neg (fun z => by cases z.1)]; rfl
    rw [HV.out]
    clear HV BG K0 hl hg h
    generalize sB g = A at *
    generalize sB r = B at *
    unfold zeroP
    go_enter Tryz.func101, Tryz.ntmps101
    go_wp2
    refine bodyPost_ret (v := .tuple #[.agg #[.bool false, .int .i64 0, .string ⟨#[]⟩, .int .i64 0, .bool false, .int .u64 0, .int .i64 0, .bool false], .int .i64 0]) (by simp [results, Tryz.results101, go_sem]) rfl ⟨rfl, ?_⟩
    exact ((Below.refl _ _).alloc (Nat.le_refl _) _).alloc (by simp) _
  · have e0 : (sB g).toList.isEmpty = true := by rw [bl_empty]; cases g with
      | nil => rfl
      | cons c r => simp at h
    cases q : wdB wNan r with
    | false =>
      rw [q] at BG
      have HV : Hid (kV (kNan (decide (0 < g.length)) r) = .tuple #[.agg zeroP, .int .i64 0]) := by
        show _ = _
        unfold kNan; rw [if_neg (fun z => by rw [q] at z; cases z.2)]; rfl
      rw [HV.out]
      have HK0 : Hid (KW w ((w.alloc (.cells #[.string (sB g), .string (sB r)] 177)).alloc (.cells zeroP 43)) (sB g) (sB r)) := K0
      clear HV K0 hl hg h q
      generalize sB g = A at *
      generalize sB r = B at *
      unfold zeroP at HK0 ⊢
      go_enter Tryz.func101, Tryz.ntmps101
      go_wp2_with fail
      refine (BG _).mono ?_
      rintro e w1 ⟨rfl, b1⟩
      have HK1 : Hid (KW w w1 A B) := HK0.out.step b1
      clear b1 HK0
      obtain ⟨_, sz, a0, a1, rr, fr⟩ := HK1.out
      have r0 := rr 0
      have r1 := rr 1
      have r2 := rr 2
      have r3 := rr 3
      have r4 := rr 4
      have r5 := rr 5
      have r6 := rr 6
      have r7 := rr 7
      simp only [zeroP] at r0 r1 r2 r3 r4 r5 r6 r7
      clear rr
      go_wp2
      refine bodyPost_ret (v := .tuple #[.agg #[.bool false, .int .i64 0, .string ⟨#[]⟩, .int .i64 0, .bool false, .int .u64 0, .int .i64 0, .bool false], .int .i64 0]) (by simp [results, Tryz.results101, go_sem, *]) rfl ⟨rfl, ?_⟩
      repeat (refine Below.setCell ?_ set_le _)
      exact HK1.out.bel
    | true =>
      rw [q] at BG
      have HV : Hid (kV (kNan (decide (0 < g.length)) r) = .tuple #[.agg #[.bool false, .int .i64 4, .string ⟨#[]⟩, .int .i64 0, .bool false, .int .u64 0, .int .i64 0, .bool false], .int .i64 3]) := by
        show _ = _
        unfold kNan; rw [if_pos ⟨decide_eq_false h, q⟩]; rfl
      rw [HV.out]
      have HK0 : Hid (KW w ((w.alloc (.cells #[.string (sB g), .string (sB r)] 177)).alloc (.cells zeroP 43)) (sB g) (sB r)) := K0
      clear HV K0 hl hg h q
      generalize sB g = A at *
      generalize sB r = B at *
      unfold zeroP at HK0
      go_enter Tryz.func101, Tryz.ntmps101
      go_wp2_with fail
      refine (BG _).mono ?_
      rintro e w1 ⟨rfl, b1⟩
      have HK1 : Hid (KW w w1 A B) := HK0.out.step b1
      clear b1 HK0
      obtain ⟨_, sz, a0, a1, rr, fr⟩ := HK1.out
      have r0 := rr 0
      have r1 := rr 1
      have r2 := rr 2
      have r3 := rr 3
      have r4 := rr 4
      have r5 := rr 5
      have r6 := rr 6
      have r7 := rr 7
      simp only [zeroP] at r0 r1 r2 r3 r4 r5 r6 r7
      clear rr
      go_wp2
      refine bodyPost_ret (v := .tuple #[.agg #[.bool false, .int .i64 4, .string ⟨#[]⟩, .int .i64 0, .bool false, .int .u64 0, .int .i64 0, .bool false], .int .i64 3]) (by simp [results, Tryz.results101, go_sem, *]) rfl ⟨rfl, ?_⟩
      repeat (refine Below.setCell ?_ set_le _)
      exact HK1.out.bel
theorem mnt_mem {b:Nat}{j:Bool}{l W P:List UInt8}{n:Nat}(h:mnt b j l=some (W,P,n)):∀ c ∈ W ++ P,isD b c=true:=by
 unfold mnt at h
 intro c hc
 have k:∀ X Y:List UInt8,X=W → Y=P → (∀ c ∈ X,isD b c=true) → (∀ c ∈ Y,isD b c=true) → isD b c=true:=by
  intro X Y e1 e2 k1 k2
  rw [← e1,← e2] at hc
  rcases List.mem_append.1 hc with z | z
  · exact k1 c z
  · exact k2 c z
 by_cases a:hdC (l.drop (rch b j l))=46
 · rw [if_pos a] at h
   by_cases d:rch b j l+rch b false (l.drop (rch b j l+1))=0
   · rw [if_pos d] at h;cases h
   · rw [if_neg d] at h
     injection h with h;injection h with e1 h;injection h with e2 h
     exact k _ _ e1 e2 (fun c hc=>rdg_mem _ _ _ hc) (fun c hc=>rdg_mem _ _ _ hc)
 · rw [if_neg a] at h
   by_cases d:rch b j l=0
   · rw [if_pos d] at h;cases h
   · rw [if_neg d] at h
     injection h with h;injection h with e1 h;injection h with e2 h
     exact k _ _ e1 e2 (fun c hc=>rdg_mem _ _ _ hc) (fun c hc=>by cases hc)
def exO (x:Option (Int × Nat)):Int × Nat:=match x with
 | none=>(0,0)
 | some y=>y
theorem exV_O (x:Option (Int × Nat)):sexV x=.tuple #[vI (exO x).1,vI ((exO x).2:Int)]:=by cases x <;> rfl
theorem kDec_some {r W P:List UInt8}{n:Nat}(h:mnt 10 false r=some (W,P,n)):kDec r=some (dePt W P (exO (exn 101 (r.drop n))).1,n+(exO (exn 101 (r.drop n))).2):=by
 unfold kDec
 rw [h]
 show (match exn 101 (r.drop n) with | none=>some (dePt W P 0,n) | some (e,m)=>some (dePt W P e,n+m))=_
 cases exn 101 (r.drop n) with
 | none=>rfl
 | some x=>rfl
theorem kDec_none {r:List UInt8}(h:mnt 10 false r=none):kDec r=none:=by unfold kDec;rw [h]
theorem exO_le {L:Nat}{l:List UInt8}:(exO (exn L l)).2≤l.length:=by
 cases h:exn L l with
 | none=>exact Nat.zero_le _
 | some x=>obtain ⟨e,m⟩:=x;exact (exn_pos h).2.1
theorem sdecimal_any (g r : List UInt8) (hl : r.length ≤ 1048600) (w : World) : Calls Tryz.prog 103 #[.agg #[.string (sB g), .string (sB r)]] w fun e w' => e = .returned (kV (kDec r)) ∧ Below w.heap.size w w' := by
  have K0 := KW.start w (sB g) (sB r)
  have RW : ∀ W, Calls Tryz.prog 130 #[.string (sB r), .int .i64 10] W fun e w' => e = .returned (rwV (mnt 10 false r)) ∧ Below W.heap.size W w' := fun W => rows_any r hl 10 (by omega) (by omega) W
  have HK0 : Hid (KW w ((w.alloc (.cells #[.string (sB g), .string (sB r)] 177)).alloc (.cells zeroP 43)) (sB g) (sB r)) := K0
  unfold zeroP at HK0
  clear K0
  cases q : mnt 10 false r with
  | none =>
    rw [kDec_none q]
    rw [q] at RW
    have RW2 : ∀ W, Calls Tryz.prog 130 #[.string (sB r), .int .i64 10] W fun e w' => e = .returned (.tuple #[.string ⟨#[]⟩, .string ⟨#[]⟩, .int .i64 0]) ∧ Below W.heap.size W w' := RW
    clear RW q hl
    generalize sB g = A at *
    generalize sB r = B at *
    go_enter Tryz.func103, Tryz.ntmps103
    go_wp2_with fail
    refine (RW2 _).mono ?_
    rintro o w1 ⟨rfl, b1⟩
    have HK1 : Hid (KW w w1 A B) := HK0.out.step b1
    clear b1
    clear HK0
    obtain ⟨_, sz, a0, a1, rr, fr⟩ := HK1.out
    have r0 := rr 0
    have r1 := rr 1
    have r2 := rr 2
    have r3 := rr 3
    have r4 := rr 4
    have r5 := rr 5
    have r6 := rr 6
    have r7 := rr 7
    simp only [zeroP] at r0 r1 r2 r3 r4 r5 r6 r7
    clear rr
    go_wp2
    refine bodyPost_ret (v := .tuple #[.agg #[.bool false, .int .i64 0, .string ⟨#[]⟩, .int .i64 0, .bool false, .int .u64 0, .int .i64 0, .bool false], .int .i64 0]) (by simp [results, Tryz.results103, go_sem, *]) rfl ⟨rfl, ?_⟩
    repeat (refine Below.setCell ?_ set_le _)
    exact HK1.out.bel
  | some x =>
    obtain ⟨W, P, n⟩ := x
    rw [kDec_some q]
    rw [q] at RW
    have RW2 : ∀ W', Calls Tryz.prog 130 #[.string (sB r), .int .i64 10] W' fun e w' => e = .returned (.tuple #[.string (sB W), .string (sB P), .int .i64 (n : Int)]) ∧ Below W'.heap.size W' w' := RW
    have hn := mnt_pos q
    have hwp := mnt_len q
    have hd : (r.drop n).length ≤ 1048600 := by rw [List.length_drop]; omega
    have EX : ∀ W', Calls Tryz.prog 131 #[.string (sB (r.drop n)), .int .u8 101] W' fun e w' => e = .returned (.tuple #[.int .i64 (exO (exn 101 (r.drop n))).1, .int .i64 ((exO (exn 101 (r.drop n))).2 : Int)]) ∧ Below W'.heap.size W' w' := fun W' => by
      rw [← exV_O]; exact exponent_any (r.drop n) hd 101 W'
    have DE := fun W' => dec_any W P (by omega) (exO (exn 101 (r.drop n))).1 W'
    have hm : (exO (exn 101 (r.drop n))).2 ≤ 1048600 := Nat.le_trans exO_le hd
    have x1 := bl_from r n
    have nz0 : ((n : Int) == 0) = false := beq_eq_false_iff_ne.mpr (by omega)
    have n1 : (n : Int) ≤ ((sB r).size : Int) := by rw [bl_size]; omega
    have n2 : (0 : Int) ≤ (n : Int) := by omega
    have hB : (sB r).size ≤ 1048600 := hl
    unfold deV dcV at DE
    show Calls _ _ _ _ fun e w' => e = .returned (.tuple #[.agg #[.bool false, .int .i64 1, .string (sB (dcT W P)), .int .i64 (dcP W P (exO (exn 101 (r.drop n))).1), .bool (dcC W P), .int .u64 0, .int .i64 0, .bool false], .int .i64 ((n + (exO (exn 101 (r.drop n))).2 : Nat) : Int)]) ∧ _
    clear RW q hl hd hwp hn
    generalize sB (dcT W P) = D1 at *
    generalize dcP W P (exO (exn 101 (r.drop n))).1 = D2 at *
    generalize dcC W P = D3 at *
    generalize (exO (exn 101 (r.drop n))).1 = X at *
    generalize (exO (exn 101 (r.drop n))).2 = m at *
    generalize sB (r.drop n) = B2 at *
    generalize sB W = s at *
    generalize sB P = t at *
    generalize sB g = A at *
    generalize sB r = B at *
    go_enter Tryz.func103, Tryz.ntmps103
    go_wp2_with fail
    refine (RW2 _).mono ?_
    rintro o w1 ⟨rfl, b1⟩
    have HK1 : Hid (KW w w1 A B) := HK0.out.step b1
    clear b1
    clear HK0
    obtain ⟨_, sz, a0, a1, rr, fr⟩ := HK1.out
    have r0 := rr 0
    have r1 := rr 1
    have r2 := rr 2
    have r3 := rr 3
    have r4 := rr 4
    have r5 := rr 5
    have r6 := rr 6
    have r7 := rr 7
    simp only [zeroP] at r0 r1 r2 r3 r4 r5 r6 r7
    clear rr
    go_wp2_with fail
    refine (EX _).mono ?_
    rintro o w2 ⟨rfl, b2⟩
    have HK2 : Hid (KW w w2 A B) := HK1.out.step b2
    clear b2
    clear sz a0 a1 fr r0 r1 r2 r3 r4 r5 r6 r7
    obtain ⟨_, sz, a0, a1, rr, fr⟩ := HK2.out
    have r0 := rr 0
    have r1 := rr 1
    have r2 := rr 2
    have r3 := rr 3
    have r4 := rr 4
    have r5 := rr 5
    have r6 := rr 6
    have r7 := rr 7
    simp only [zeroP] at r0 r1 r2 r3 r4 r5 r6 r7
    clear rr
    go_wp2_with fail
    refine (DE _).mono ?_
    rintro o w3 ⟨rfl, b3⟩
    have HK3 : Hid (KW w w3 A B) := HK2.out.step b3
    clear b3
    clear sz a0 a1 fr r0 r1 r2 r3 r4 r5 r6 r7
    obtain ⟨_, sz, a0, a1, rr, fr⟩ := HK3.out
    have r0 := rr 0
    have r1 := rr 1
    have r2 := rr 2
    have r3 := rr 3
    have r4 := rr 4
    have r5 := rr 5
    have r6 := rr 6
    have r7 := rr 7
    simp only [zeroP] at r0 r1 r2 r3 r4 r5 r6 r7
    clear rr
    go_wp2
    refine bodyPost_ret (v := .tuple #[.agg #[.bool false, .int .i64 1, .string D1, .int .i64 D2, .bool D3, .int .u64 0, .int .i64 0, .bool false], .int .i64 ((n : Int) + (m : Int))]) (by simp [results, Tryz.results103, go_sem, *]) rfl ⟨by simp, ?_⟩
    repeat (refine Below.setCell ?_ set_le _)
    exact HK3.out.bel
theorem bt_hd (r:List UInt8):bt (sB r) 0=hdC r:=by
 cases r with
 | nil=>exact bt_out (by decide)
 | cons c r=>rw [bt_in (show 0<(sB (c :: r)).size by rw [bl_size];simp)];rfl
theorem bt_hd1 (r : List UInt8) : bt (sB r) 1 = hdC r.tail := by
  cases r with
  | nil => exact bt_out (by decide)
  | cons c r =>
    cases r with
    | nil => exact bt_out (by rw [bl_size]; simp)
    | cons d r => rw [bt_in (show 1 < (sB (c :: d :: r)).size by rw [bl_size]; simp)]; rfl
theorem pf_x {r:List UInt8}(h:isX r=true):pfB (bt (sB r) 0) (bt (sB r) 1)=16∧pfN (bt (sB r) 0) (bt (sB r) 1)=2:=by
 rw [bt_hd,bt_hd1]
 have h':=of_decide_eq_true h
 obtain ⟨ha,hb⟩:=h'
 constructor
 · unfold pfB
   rw [if_pos ⟨ha,by omega⟩,if_neg (by omega),if_pos hb]
 · unfold pfN
   rw [if_pos ⟨ha,by omega⟩,if_pos (by omega)]
theorem pf_no {r:List UInt8}(h:isX r=false):pfB (bt (sB r) 0) (bt (sB r) 1) ≠ 16:=by
 rw [bt_hd,bt_hd1]
 have h':=of_decide_eq_false h
 unfold pfB
 by_cases a:hdC r=48∧hdC r.tail<256
 · rw [if_pos a]
   by_cases b:hdC r.tail=98 ∨ hdC r.tail=66
   · rw [if_pos b];omega
   · rw [if_neg b,if_neg (fun z=>h' ⟨a.1,z⟩)];omega
 · rw [if_neg a];omega
theorem rch_pos {b:Nat}{l:List UInt8}:0<rch b false l ↔ hdD b l=true:=by
 constructor
 · intro h
   rw [hdn_pos]
   rcases Nat.eq_zero_or_pos (hdn b l) with z | z
   · rw [rch_zero z] at h;omega
   · exact z
 · exact fun h=>rch_hd h
theorem drop_one (l:List UInt8):l.drop 1=l.tail:=by cases l <;> rfl
theorem jn_iff {l:List UInt8}:jnB l=true ↔ (hdC l=95∧hdD 16 l.tail=true):=by
 unfold jnB bgn
 rw [Bool.and_eq_true,decide_eq_true_eq,decide_eq_true_eq,rch_pos,drop_one]
 exact Iff.rfl
def ahN (r:List UInt8):Nat:=if jnB (r.drop 2)=true then 3 else 2
theorem mnt_ah (r:List UInt8):mnt 16 true (r.drop 2)=(mnt 16 false (r.drop (ahN r))).map (fun x=>(x.1,x.2.1,x.2.2+(ahN r - 2))):=by
 rw [mnt_free (by omega)]
 unfold ahN
 by_cases h:jnB (r.drop 2)=true
 · rw [if_pos (jn_iff.1 h),if_pos h,← drop_one,List.drop_drop]
 · rw [if_neg (fun z=>h (jn_iff.2 z)),if_neg h]
   cases mnt 16 false (r.drop 2) <;> rfl
theorem kHex_not {r:List UInt8}(h:isX r=false):kHex r=none:=by unfold kHex;rw [if_neg (by rw [h];decide)]
theorem kHex_none {r:List UInt8}(h:mnt 16 false (r.drop (ahN r))=none):kHex r=none:=by
 unfold kHex
 rw [mnt_ah,h]
 split <;> rfl
theorem ahN_ge (r:List UInt8):2≤ahN r∧ahN r≤3:=by unfold ahN;split <;> omega
theorem kHex_some {r W P:List UInt8}{n:Nat}(hx:isX r=true) (h:mnt 16 false (r.drop (ahN r))=some (W,P,n)):kHex r=match exn 112 (r.drop (ahN r+n)) with
 | none=>none
 | some (e,m)=>some (hxPt W P e,ahN r+n+m):=by
 unfold kHex
 rw [if_pos hx,mnt_ah,h]
 have:=ahN_ge r
 have e:2+(n+(ahN r - 2))=ahN r+n:=by omega
 show (match exn 112 (r.drop (2+(n+(ahN r - 2)))) with | none=>none | some (e,m)=>some (hxPt W P e,2+(n+(ahN r - 2))+m))=_
 rw [e]
theorem isX_len {r : List UInt8} (h : isX r = true) : 2 ≤ r.length := by
  have h' := of_decide_eq_true h
  cases r with
  | nil => have := h'.1; cases this
  | cons c t =>
    cases t with
    | nil =>
      have k : hdC ([] : List UInt8) = 120 ∨ hdC ([] : List UInt8) = 88 := h'.2
      have : hdC ([] : List UInt8) = 256 := rfl
      omega
    | cons d t => simp
theorem jn_len {l:List UInt8}(h:jnB l=true):1≤l.length:=by
 have h':=(jn_iff.1 h).1
 cases l with
 | nil=>have:hdC ([]:List UInt8)=256:=rfl;omega
 | cons c t=>simp
theorem hex_not (g r:List UInt8) (hl:r.length≤1048600) (hx:isX r=false) (w:World):Cb 102 #[.agg #[.string (sB g),.string (sB r)]] w (kV (kHex r)):=by
 rw [kHex_not hx]
 have PF:=fun W=>prefix_any (sB r) (by rw [bl_size];omega) W
 have q:(pfB (bt (sB r) 0) (bt (sB r) 1) != 16)=true:=bne_iff_ne.mpr (pf_no hx)
 generalize pfB (bt (sB r) 0) (bt (sB r) 1)=x at *
 generalize pfN (bt (sB r) 0) (bt (sB r) 1)=y at *
 generalize sB g=A at *
 generalize sB r=B at *
 clear hl hx
 show Calls _ _ _ _ fun e w'=>e=.returned (.tuple #[.agg #[.bool false,vI 0,.string ⟨#[]⟩,vI 0,.bool false,vU 0,vI 0,.bool false],vI 0])∧_
 go_enter Tryz.func102,Tryz.ntmps102
 go_wp2_with fail
 refine (PF _).mono ?_
 rintro o w1 ⟨rfl,rfl⟩
 go_wp2
 refine bodyPost_ret (v:=.tuple #[.agg #[.bool false,vI 0,.string ⟨#[]⟩,vI 0,.bool false,vU 0,vI 0,.bool false],vI 0]) (by simp [results,Tryz.results102,go_sem]) rfl ⟨rfl,?_⟩
 exact (bz _ _).alloc (by simp) _
theorem hex_false (g r : List UInt8) (hl : r.length ≤ 1048600) (hx : isX r = true) (hj : jnB (r.drop 2) = false) (w : World) : Calls Tryz.prog 102 #[.agg #[.string (sB g), .string (sB r)]] w fun e w' => e = .returned (kV (kHex r)) ∧ Below w.heap.size w w' := by
  have K0 := KW.start w (sB g) (sB r)
  have PF := fun W => prefix_any (sB r) (by rw [bl_size]; omega) W
  rw [(pf_x hx).1, (pf_x hx).2] at PF
  have ea : ahN r = 2 := by unfold ahN; rw [if_neg (by rw [hj]; decide)]
  have h2 := isX_len hx
  have hl2 : (r.drop 2).length ≤ 1048600 := by rw [List.length_drop]; omega
  have hla : (r.drop 2).length ≤ 1048600 := by rw [List.length_drop]; omega
  have JN := fun W => joins_any (r.drop 2) hl2 W
  rw [hj] at JN
  have h3 : 2 ≤ r.length := h2
  have RW : ∀ W, Calls Tryz.prog 130 #[.string (sB (r.drop 2)), .int .i64 16] W fun e w' => e = .returned (rwV (mnt 16 false (r.drop 2))) ∧ Below W.heap.size W w' := fun W => rows_any (r.drop 2) hla 16 (by omega) (by omega) W
  have HK0 : Hid (KW w ((w.alloc (.cells #[.string (sB g), .string (sB r)] 177)).alloc (.cells zeroP 43)) (sB g) (sB r)) := K0
  have x2 := bl_from r 2
  have x3 := bl_from r 2
  have z2 : (2 : Int) ≤ ((sB r).size : Int) := by rw [bl_size]; omega
  have z3 : (2 : Int) ≤ ((sB r).size : Int) := by rw [bl_size]; omega
  have hB : (sB r).size ≤ 1048600 := hl
  unfold zeroP at HK0
  clear K0
  cases q : mnt 16 false (r.drop 2) with
  | none =>
    rw [kHex_none (by rw [ea]; exact q)]
    rw [q] at RW
    have RW2 : ∀ W, Calls Tryz.prog 130 #[.string (sB (r.drop 2)), .int .i64 16] W fun e w' => e = .returned (.tuple #[.string ⟨#[]⟩, .string ⟨#[]⟩, .int .i64 0]) ∧ Below W.heap.size W w' := RW
    have EX : ∀ W', Calls Tryz.prog 131 #[.string (sB (r.drop 2)), .int .u8 112] W' fun e w' => e = .returned (.tuple #[.int .i64 (exO (exn 112 (r.drop 2))).1, .int .i64 ((exO (exn 112 (r.drop 2))).2 : Int)]) ∧ Below W'.heap.size W' w' := fun W' => by
      rw [← exV_O]; exact exponent_any (r.drop 2) hla 112 W'
    clear RW q hl hl2 hla hx hj h2 h3 ea
    generalize (exO (exn 112 (r.drop 2))).1 = X at *
    generalize (exO (exn 112 (r.drop 2))).2 = m at *
    generalize sB (r.drop 2) = B3 at *
    generalize sB g = A at *
    generalize sB r = B at *
    go_enter Tryz.func102, Tryz.ntmps102
    go_wp2_with fail
    refine (PF _).mono ?_
    rintro o w1 ⟨rfl, rfl⟩
    go_wp2_with fail
    refine (JN _).mono ?_
    rintro o w1 ⟨rfl, rfl⟩
    go_wp2_with fail
    refine (RW2 _).mono ?_
    rintro o w1 ⟨rfl, b1⟩
    have HK1 : Hid (KW w w1 A B) := HK0.out.step b1
    clear b1
    clear HK0
    obtain ⟨_, sz, a0, a1, rr, fr⟩ := HK1.out
    have r0 := rr 0
    have r1 := rr 1
    have r2 := rr 2
    have r3 := rr 3
    have r4 := rr 4
    have r5 := rr 5
    have r6 := rr 6
    have r7 := rr 7
    simp only [zeroP] at r0 r1 r2 r3 r4 r5 r6 r7
    clear rr
    go_wp2_with fail
    refine (EX _).mono ?_
    rintro o w2 ⟨rfl, b2⟩
    have HK2 : Hid (KW w w2 A B) := HK1.out.step b2
    clear b2
    clear sz a0 a1 fr r0 r1 r2 r3 r4 r5 r6 r7
    obtain ⟨_, sz, a0, a1, rr, fr⟩ := HK2.out
    have r0 := rr 0
    have r1 := rr 1
    have r2 := rr 2
    have r3 := rr 3
    have r4 := rr 4
    have r5 := rr 5
    have r6 := rr 6
    have r7 := rr 7
    simp only [zeroP] at r0 r1 r2 r3 r4 r5 r6 r7
    clear rr
    go_wp2
    refine bodyPost_ret (v := .tuple #[.agg #[.bool false, .int .i64 0, .string ⟨#[]⟩, .int .i64 0, .bool false, .int .u64 0, .int .i64 0, .bool false], .int .i64 0]) (by simp [results, Tryz.results102, go_sem, *]) rfl ⟨rfl, ?_⟩
    repeat (refine Below.setCell ?_ set_le _)
    exact HK2.out.bel
  | some x =>
    obtain ⟨W, P, n⟩ := x
    rw [kHex_some hx (by rw [ea]; exact q), ea]
    rw [q] at RW
    have RW2 : ∀ W', Calls Tryz.prog 130 #[.string (sB (r.drop 2)), .int .i64 16] W' fun e w' => e = .returned (.tuple #[.string (sB W), .string (sB P), .int .i64 (n : Int)]) ∧ Below W'.heap.size W' w' := RW
    have hn := mnt_pos q
    have hwp := mnt_len q
    have hmem := mnt_mem q
    rw [List.length_drop] at hn hwp
    have hd : (r.drop (2 + n)).length ≤ 1048600 := by rw [List.length_drop]; omega
    have EX : ∀ W', Calls Tryz.prog 131 #[.string (sB (r.drop (2 + n))), .int .u8 112] W' fun e w' => e = .returned (sexV (exn 112 (r.drop (2 + n)))) ∧ Below W'.heap.size W' w' := fun W' => exponent_any (r.drop (2 + n)) hd 112 W'
    have x4 := bl_from r (2 + n)
    have nz0 : ((n : Int) == 0) = false := beq_eq_false_iff_ne.mpr (by omega)
    have n1 : (2 : Int) + (n : Int) ≤ ((sB r).size : Int) := by rw [bl_size]; omega
    have n2 : (0 : Int) ≤ (n : Int) := by omega
    have n3 : ((2 : Int) + (n : Int)).toNat = 2 + n := by omega
    have n4 : n ≤ 1048600 := by omega
    cases qe : exn 112 (r.drop (2 + n)) with
    | none =>
      rw [qe] at EX
      have EX2 : ∀ W', Calls Tryz.prog 131 #[.string (sB (r.drop (2 + n))), .int .u8 112] W' fun e w' => e = .returned (.tuple #[.int .i64 0, .int .i64 0]) ∧ Below W'.heap.size W' w' := EX
      show Calls _ _ _ _ fun e w' => e = .returned (.tuple #[.agg #[.bool false, .int .i64 0, .string ⟨#[]⟩, .int .i64 0, .bool false, .int .u64 0, .int .i64 0, .bool false], .int .i64 0]) ∧ _
      clear RW q hl hl2 hla hx hj h2 h3 ea qe EX hmem hwp hn hd
      generalize sB (r.drop (2 + n)) = B4 at *
      generalize sB W = s at *
      generalize sB P = t at *
      generalize sB (r.drop 2) = B3 at *
      generalize sB g = A at *
      generalize sB r = B at *
      go_enter Tryz.func102, Tryz.ntmps102
      go_wp2_with fail
      refine (PF _).mono ?_
      rintro o w1 ⟨rfl, rfl⟩
      go_wp2_with fail
      refine (JN _).mono ?_
      rintro o w1 ⟨rfl, rfl⟩
      go_wp2_with fail
      refine (RW2 _).mono ?_
      rintro o w1 ⟨rfl, b1⟩
      have HK1 : Hid (KW w w1 A B) := HK0.out.step b1
      clear b1
      clear HK0
      obtain ⟨_, sz, a0, a1, rr, fr⟩ := HK1.out
      have r0 := rr 0
      have r1 := rr 1
      have r2 := rr 2
      have r3 := rr 3
      have r4 := rr 4
      have r5 := rr 5
      have r6 := rr 6
      have r7 := rr 7
      simp only [zeroP] at r0 r1 r2 r3 r4 r5 r6 r7
      clear rr
      go_wp2_with fail
      refine (EX2 _).mono ?_
      rintro o w2 ⟨rfl, b2⟩
      have HK2 : Hid (KW w w2 A B) := HK1.out.step b2
      clear b2
      clear sz a0 a1 fr r0 r1 r2 r3 r4 r5 r6 r7
      obtain ⟨_, sz, a0, a1, rr, fr⟩ := HK2.out
      have r0 := rr 0
      have r1 := rr 1
      have r2 := rr 2
      have r3 := rr 3
      have r4 := rr 4
      have r5 := rr 5
      have r6 := rr 6
      have r7 := rr 7
      simp only [zeroP] at r0 r1 r2 r3 r4 r5 r6 r7
      clear rr
      go_wp2
      refine bodyPost_ret (v := .tuple #[.agg #[.bool false, .int .i64 0, .string ⟨#[]⟩, .int .i64 0, .bool false, .int .u64 0, .int .i64 0, .bool false], .int .i64 0]) (by simp [results, Tryz.results102, go_sem, *]) rfl ⟨rfl, ?_⟩
      repeat (refine Below.setCell ?_ set_le _)
      exact HK2.out.bel
    | some y =>
      obtain ⟨X, m⟩ := y
      rw [qe] at EX
      have EX2 : ∀ W', Calls Tryz.prog 131 #[.string (sB (r.drop (2 + n))), .int .u8 112] W' fun e w' => e = .returned (.tuple #[.int .i64 X, .int .i64 (m : Int)]) ∧ Below W'.heap.size W' w' := EX
      have ep := exn_pos qe
      have HX := fun W' => hexParts_any W P (by omega) hmem X ep.2.2.1 ep.2.2.2 W'
      have hm : m ≤ 1048600 := by omega
      have m0 : ((m : Int) == 0) = false := beq_eq_false_iff_ne.mpr (by omega)
      unfold spV at HX
      show Calls _ _ _ _ fun e w' => e = .returned (.tuple #[.agg #[.bool false, .int .i64 2, .string ⟨#[]⟩, .int .i64 0, .bool false, .int .u64 (hxM (W ++ P) : Int), .int .i64 (hxE W P X), .bool (hxC (W ++ P))], .int .i64 ((2 + n + m : Nat) : Int)]) ∧ _
      have HX2 : ∀ W', Calls Tryz.prog 132 #[.string (sB W), .string (sB P), .int .i64 X] W' fun o w' => o = .returned (.agg #[.bool false, .int .i64 2, .string ⟨#[]⟩, .int .i64 0, .bool false, .int .u64 (hxM (W ++ P) : Int), .int .i64 (hxE W P X), .bool (hxC (W ++ P))]) ∧ Below W'.heap.size W' w' := HX
      clear RW q hl hl2 hla hx hj h2 h3 ea qe EX hmem hwp hn hd ep HX
      generalize sB (r.drop (2 + n)) = B4 at *
      generalize (hxM (W ++ P) : Int) = D1 at *
      generalize hxE W P X = D2 at *
      generalize hxC (W ++ P) = D3 at *
      generalize sB W = s at *
      generalize sB P = t at *
      generalize sB (r.drop 2) = B3 at *
      generalize sB g = A at *
      generalize sB r = B at *
      go_enter Tryz.func102, Tryz.ntmps102
      go_wp2_with fail
      refine (PF _).mono ?_
      rintro o w1 ⟨rfl, rfl⟩
      go_wp2_with fail
      refine (JN _).mono ?_
      rintro o w1 ⟨rfl, rfl⟩
      go_wp2_with fail
      refine (RW2 _).mono ?_
      rintro o w1 ⟨rfl, b1⟩
      have HK1 : Hid (KW w w1 A B) := HK0.out.step b1
      clear b1
      clear HK0
      obtain ⟨_, sz, a0, a1, rr, fr⟩ := HK1.out
      have r0 := rr 0
      have r1 := rr 1
      have r2 := rr 2
      have r3 := rr 3
      have r4 := rr 4
      have r5 := rr 5
      have r6 := rr 6
      have r7 := rr 7
      simp only [zeroP] at r0 r1 r2 r3 r4 r5 r6 r7
      clear rr
      go_wp2_with fail
      refine (EX2 _).mono ?_
      rintro o w2 ⟨rfl, b2⟩
      have HK2 : Hid (KW w w2 A B) := HK1.out.step b2
      clear b2
      clear sz a0 a1 fr r0 r1 r2 r3 r4 r5 r6 r7
      obtain ⟨_, sz, a0, a1, rr, fr⟩ := HK2.out
      have r0 := rr 0
      have r1 := rr 1
      have r2 := rr 2
      have r3 := rr 3
      have r4 := rr 4
      have r5 := rr 5
      have r6 := rr 6
      have r7 := rr 7
      simp only [zeroP] at r0 r1 r2 r3 r4 r5 r6 r7
      clear rr
      go_wp2_with fail
      refine (HX2 _).mono ?_
      rintro o w3 ⟨rfl, b3⟩
      have HK3 : Hid (KW w w3 A B) := HK2.out.step b3
      clear b3
      clear sz a0 a1 fr r0 r1 r2 r3 r4 r5 r6 r7
      obtain ⟨_, sz, a0, a1, rr, fr⟩ := HK3.out
      have r0 := rr 0
      have r1 := rr 1
      have r2 := rr 2
      have r3 := rr 3
      have r4 := rr 4
      have r5 := rr 5
      have r6 := rr 6
      have r7 := rr 7
      simp only [zeroP] at r0 r1 r2 r3 r4 r5 r6 r7
      clear rr
      go_wp2
      refine bodyPost_ret (v := .tuple #[.agg #[.bool false, .int .i64 2, .string ⟨#[]⟩, .int .i64 0, .bool false, .int .u64 D1, .int .i64 D2, .bool D3], .int .i64 ((2 : Int) + (n : Int) + (m : Int))]) (by simp [results, Tryz.results102, go_sem, *]) rfl ⟨by simp, ?_⟩
      repeat (refine Below.setCell ?_ set_le _)
      exact HK3.out.bel
theorem hex_true (g r : List UInt8) (hl : r.length ≤ 1048600) (hx : isX r = true) (hj : jnB (r.drop 2) = true) (w : World) : Calls Tryz.prog 102 #[.agg #[.string (sB g), .string (sB r)]] w fun e w' => e = .returned (kV (kHex r)) ∧ Below w.heap.size w w' := by
  have K0 := KW.start w (sB g) (sB r)
  have PF := fun W => prefix_any (sB r) (by rw [bl_size]; omega) W
  rw [(pf_x hx).1, (pf_x hx).2] at PF
  have ea : ahN r = 3 := by unfold ahN; rw [if_pos hj]
  have h2 := isX_len hx
  have hl2 : (r.drop 2).length ≤ 1048600 := by rw [List.length_drop]; omega
  have hla : (r.drop 3).length ≤ 1048600 := by rw [List.length_drop]; omega
  have JN := fun W => joins_any (r.drop 2) hl2 W
  rw [hj] at JN
  have h3 : 3 ≤ r.length := by have := jn_len hj; rw [List.length_drop] at this; omega
  have RW : ∀ W, Calls Tryz.prog 130 #[.string (sB (r.drop 3)), .int .i64 16] W fun e w' => e = .returned (rwV (mnt 16 false (r.drop 3))) ∧ Below W.heap.size W w' := fun W => rows_any (r.drop 3) hla 16 (by omega) (by omega) W
  have HK0 : Hid (KW w ((w.alloc (.cells #[.string (sB g), .string (sB r)] 177)).alloc (.cells zeroP 43)) (sB g) (sB r)) := K0
  have x2 := bl_from r 2
  have x3 := bl_from r 3
  have z2 : (2 : Int) ≤ ((sB r).size : Int) := by rw [bl_size]; omega
  have z3 : (3 : Int) ≤ ((sB r).size : Int) := by rw [bl_size]; omega
  have hB : (sB r).size ≤ 1048600 := hl
  unfold zeroP at HK0
  clear K0
  cases q : mnt 16 false (r.drop 3) with
  | none =>
    rw [kHex_none (by rw [ea]; exact q)]
    rw [q] at RW
    have RW2 : ∀ W, Calls Tryz.prog 130 #[.string (sB (r.drop 3)), .int .i64 16] W fun e w' => e = .returned (.tuple #[.string ⟨#[]⟩, .string ⟨#[]⟩, .int .i64 0]) ∧ Below W.heap.size W w' := RW
    have EX : ∀ W', Calls Tryz.prog 131 #[.string (sB (r.drop 3)), .int .u8 112] W' fun e w' => e = .returned (.tuple #[.int .i64 (exO (exn 112 (r.drop 3))).1, .int .i64 ((exO (exn 112 (r.drop 3))).2 : Int)]) ∧ Below W'.heap.size W' w' := fun W' => by
      rw [← exV_O]; exact exponent_any (r.drop 3) hla 112 W'
    clear RW q hl hl2 hla hx hj h2 h3 ea
    generalize (exO (exn 112 (r.drop 3))).1 = X at *
    generalize (exO (exn 112 (r.drop 3))).2 = m at *
    generalize sB (r.drop 3) = B3 at *
    generalize sB (r.drop 2) = B2 at *
    generalize sB g = A at *
    generalize sB r = B at *
    go_enter Tryz.func102, Tryz.ntmps102
    go_wp2_with fail
    refine (PF _).mono ?_
    rintro o w1 ⟨rfl, rfl⟩
    go_wp2_with fail
    refine (JN _).mono ?_
    rintro o w1 ⟨rfl, rfl⟩
    go_wp2_with fail
    refine (RW2 _).mono ?_
    rintro o w1 ⟨rfl, b1⟩
    have HK1 : Hid (KW w w1 A B) := HK0.out.step b1
    clear b1
    clear HK0
    obtain ⟨_, sz, a0, a1, rr, fr⟩ := HK1.out
    have r0 := rr 0
    have r1 := rr 1
    have r2 := rr 2
    have r3 := rr 3
    have r4 := rr 4
    have r5 := rr 5
    have r6 := rr 6
    have r7 := rr 7
    simp only [zeroP] at r0 r1 r2 r3 r4 r5 r6 r7
    clear rr
    go_wp2_with fail
    refine (EX _).mono ?_
    rintro o w2 ⟨rfl, b2⟩
    have HK2 : Hid (KW w w2 A B) := HK1.out.step b2
    clear b2
    clear sz a0 a1 fr r0 r1 r2 r3 r4 r5 r6 r7
    obtain ⟨_, sz, a0, a1, rr, fr⟩ := HK2.out
    have r0 := rr 0
    have r1 := rr 1
    have r2 := rr 2
    have r3 := rr 3
    have r4 := rr 4
    have r5 := rr 5
    have r6 := rr 6
    have r7 := rr 7
    simp only [zeroP] at r0 r1 r2 r3 r4 r5 r6 r7
    clear rr
    go_wp2
    refine bodyPost_ret (v := .tuple #[.agg #[.bool false, .int .i64 0, .string ⟨#[]⟩, .int .i64 0, .bool false, .int .u64 0, .int .i64 0, .bool false], .int .i64 0]) (by simp [results, Tryz.results102, go_sem, *]) rfl ⟨rfl, ?_⟩
    repeat (refine Below.setCell ?_ set_le _)
    exact HK2.out.bel
  | some x =>
    obtain ⟨W, P, n⟩ := x
    rw [kHex_some hx (by rw [ea]; exact q), ea]
    rw [q] at RW
    have RW2 : ∀ W', Calls Tryz.prog 130 #[.string (sB (r.drop 3)), .int .i64 16] W' fun e w' => e = .returned (.tuple #[.string (sB W), .string (sB P), .int .i64 (n : Int)]) ∧ Below W'.heap.size W' w' := RW
    have hn := mnt_pos q
    have hwp := mnt_len q
    have hmem := mnt_mem q
    rw [List.length_drop] at hn hwp
    have hd : (r.drop (3 + n)).length ≤ 1048600 := by rw [List.length_drop]; omega
    have EX : ∀ W', Calls Tryz.prog 131 #[.string (sB (r.drop (3 + n))), .int .u8 112] W' fun e w' => e = .returned (sexV (exn 112 (r.drop (3 + n)))) ∧ Below W'.heap.size W' w' := fun W' => exponent_any (r.drop (3 + n)) hd 112 W'
    have x4 := bl_from r (3 + n)
    have nz0 : ((n : Int) == 0) = false := beq_eq_false_iff_ne.mpr (by omega)
    have n1 : (3 : Int) + (n : Int) ≤ ((sB r).size : Int) := by rw [bl_size]; omega
    have n2 : (0 : Int) ≤ (n : Int) := by omega
    have n3 : ((3 : Int) + (n : Int)).toNat = 3 + n := by omega
    have n4 : n ≤ 1048600 := by omega
    cases qe : exn 112 (r.drop (3 + n)) with
    | none =>
      rw [qe] at EX
      have EX2 : ∀ W', Calls Tryz.prog 131 #[.string (sB (r.drop (3 + n))), .int .u8 112] W' fun e w' => e = .returned (.tuple #[.int .i64 0, .int .i64 0]) ∧ Below W'.heap.size W' w' := EX
      show Calls _ _ _ _ fun e w' => e = .returned (.tuple #[.agg #[.bool false, .int .i64 0, .string ⟨#[]⟩, .int .i64 0, .bool false, .int .u64 0, .int .i64 0, .bool false], .int .i64 0]) ∧ _
      clear RW q hl hl2 hla hx hj h2 h3 ea qe EX hmem hwp hn hd
      generalize sB (r.drop (3 + n)) = B4 at *
      generalize sB W = s at *
      generalize sB P = t at *
      generalize sB (r.drop 3) = B3 at *
      generalize sB (r.drop 2) = B2 at *
      generalize sB g = A at *
      generalize sB r = B at *
      go_enter Tryz.func102, Tryz.ntmps102
      go_wp2_with fail
      refine (PF _).mono ?_
      rintro o w1 ⟨rfl, rfl⟩
      go_wp2_with fail
      refine (JN _).mono ?_
      rintro o w1 ⟨rfl, rfl⟩
      go_wp2_with fail
      refine (RW2 _).mono ?_
      rintro o w1 ⟨rfl, b1⟩
      have HK1 : Hid (KW w w1 A B) := HK0.out.step b1
      clear b1
      clear HK0
      obtain ⟨_, sz, a0, a1, rr, fr⟩ := HK1.out
      have r0 := rr 0
      have r1 := rr 1
      have r2 := rr 2
      have r3 := rr 3
      have r4 := rr 4
      have r5 := rr 5
      have r6 := rr 6
      have r7 := rr 7
      simp only [zeroP] at r0 r1 r2 r3 r4 r5 r6 r7
      clear rr
      go_wp2_with fail
      refine (EX2 _).mono ?_
      rintro o w2 ⟨rfl, b2⟩
      have HK2 : Hid (KW w w2 A B) := HK1.out.step b2
      clear b2
      clear sz a0 a1 fr r0 r1 r2 r3 r4 r5 r6 r7
      obtain ⟨_, sz, a0, a1, rr, fr⟩ := HK2.out
      have r0 := rr 0
      have r1 := rr 1
      have r2 := rr 2
      have r3 := rr 3
      have r4 := rr 4
      have r5 := rr 5
      have r6 := rr 6
      have r7 := rr 7
      simp only [zeroP] at r0 r1 r2 r3 r4 r5 r6 r7
      clear rr
      go_wp2
      refine bodyPost_ret (v := .tuple #[.agg #[.bool false, .int .i64 0, .string ⟨#[]⟩, .int .i64 0, .bool false, .int .u64 0, .int .i64 0, .bool false], .int .i64 0]) (by simp [results, Tryz.results102, go_sem, *]) rfl ⟨rfl, ?_⟩
      repeat (refine Below.setCell ?_ set_le _)
      exact HK2.out.bel
    | some y =>
      obtain ⟨X, m⟩ := y
      rw [qe] at EX
      have EX2 : ∀ W', Calls Tryz.prog 131 #[.string (sB (r.drop (3 + n))), .int .u8 112] W' fun e w' => e = .returned (.tuple #[.int .i64 X, .int .i64 (m : Int)]) ∧ Below W'.heap.size W' w' := EX
      have ep := exn_pos qe
      have HX := fun W' => hexParts_any W P (by omega) hmem X ep.2.2.1 ep.2.2.2 W'
      have hm : m ≤ 1048600 := by omega
      have m0 : ((m : Int) == 0) = false := beq_eq_false_iff_ne.mpr (by omega)
      unfold spV at HX
      show Calls _ _ _ _ fun e w' => e = .returned (.tuple #[.agg #[.bool false, .int .i64 2, .string ⟨#[]⟩, .int .i64 0, .bool false, .int .u64 (hxM (W ++ P) : Int), .int .i64 (hxE W P X), .bool (hxC (W ++ P))], .int .i64 ((3 + n + m : Nat) : Int)]) ∧ _
      have HX2 : ∀ W', Calls Tryz.prog 132 #[.string (sB W), .string (sB P), .int .i64 X] W' fun o w' => o = .returned (.agg #[.bool false, .int .i64 2, .string ⟨#[]⟩, .int .i64 0, .bool false, .int .u64 (hxM (W ++ P) : Int), .int .i64 (hxE W P X), .bool (hxC (W ++ P))]) ∧ Below W'.heap.size W' w' := HX
      clear RW q hl hl2 hla hx hj h2 h3 ea qe EX hmem hwp hn hd ep HX
      generalize sB (r.drop (3 + n)) = B4 at *
      generalize (hxM (W ++ P) : Int) = D1 at *
      generalize hxE W P X = D2 at *
      generalize hxC (W ++ P) = D3 at *
      generalize sB W = s at *
      generalize sB P = t at *
      generalize sB (r.drop 3) = B3 at *
      generalize sB (r.drop 2) = B2 at *
      generalize sB g = A at *
      generalize sB r = B at *
      go_enter Tryz.func102, Tryz.ntmps102
      go_wp2_with fail
      refine (PF _).mono ?_
      rintro o w1 ⟨rfl, rfl⟩
      go_wp2_with fail
      refine (JN _).mono ?_
      rintro o w1 ⟨rfl, rfl⟩
      go_wp2_with fail
      refine (RW2 _).mono ?_
      rintro o w1 ⟨rfl, b1⟩
      have HK1 : Hid (KW w w1 A B) := HK0.out.step b1
      clear b1
      clear HK0
      obtain ⟨_, sz, a0, a1, rr, fr⟩ := HK1.out
      have r0 := rr 0
      have r1 := rr 1
      have r2 := rr 2
      have r3 := rr 3
      have r4 := rr 4
      have r5 := rr 5
      have r6 := rr 6
      have r7 := rr 7
      simp only [zeroP] at r0 r1 r2 r3 r4 r5 r6 r7
      clear rr
      go_wp2_with fail
      refine (EX2 _).mono ?_
      rintro o w2 ⟨rfl, b2⟩
      have HK2 : Hid (KW w w2 A B) := HK1.out.step b2
      clear b2
      clear sz a0 a1 fr r0 r1 r2 r3 r4 r5 r6 r7
      obtain ⟨_, sz, a0, a1, rr, fr⟩ := HK2.out
      have r0 := rr 0
      have r1 := rr 1
      have r2 := rr 2
      have r3 := rr 3
      have r4 := rr 4
      have r5 := rr 5
      have r6 := rr 6
      have r7 := rr 7
      simp only [zeroP] at r0 r1 r2 r3 r4 r5 r6 r7
      clear rr
      go_wp2_with fail
      refine (HX2 _).mono ?_
      rintro o w3 ⟨rfl, b3⟩
      have HK3 : Hid (KW w w3 A B) := HK2.out.step b3
      clear b3
      clear sz a0 a1 fr r0 r1 r2 r3 r4 r5 r6 r7
      obtain ⟨_, sz, a0, a1, rr, fr⟩ := HK3.out
      have r0 := rr 0
      have r1 := rr 1
      have r2 := rr 2
      have r3 := rr 3
      have r4 := rr 4
      have r5 := rr 5
      have r6 := rr 6
      have r7 := rr 7
      simp only [zeroP] at r0 r1 r2 r3 r4 r5 r6 r7
      clear rr
      go_wp2
      refine bodyPost_ret (v := .tuple #[.agg #[.bool false, .int .i64 2, .string ⟨#[]⟩, .int .i64 0, .bool false, .int .u64 D1, .int .i64 D2, .bool D3], .int .i64 ((3 : Int) + (n : Int) + (m : Int))]) (by simp [results, Tryz.results102, go_sem, *]) rfl ⟨by simp, ?_⟩
      repeat (refine Below.setCell ?_ set_le _)
      exact HK3.out.bel
theorem hex_any (g r : List UInt8) (hl : r.length ≤ 1048600) (w : World) : Calls Tryz.prog 102 #[.agg #[.string (sB g), .string (sB r)]] w fun e w' => e = .returned (kV (kHex r)) ∧ Below w.heap.size w w' := by
  cases hx : isX r with
  | false => exact hex_not g r hl hx w
  | true =>
    cases hj : jnB (r.drop 2) with
    | false => exact hex_false g r hl hx hj w
    | true => exact hex_true g r hl hx hj w
end Go.Proofs.YteeobndfnkeldaaGreatDoor
