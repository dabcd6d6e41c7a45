/-
  Holds: UScC UScD.
-/
import Derived.Test.YtejgpbhionadbaaGreatDoorChecked
import Derived.WalkKit
import Derived.Deep.DeepMust
import Derived.Lib.Strings
import Derived.Lib.BufferWrite
import Derived.Deep.OwnRows
import Derived.Deep.RegionHeld3
import Derived.Deep.QuietTactic
import Derived.BigQuiet
import Derived.Test.YtejgpbhionadbaaGreatDoorShelf
import Derived.Test.YtejgpbhionadbaaGreatDoorXl30
set_option maxRecDepth 100000
set_option maxHeartbeats 4000000
namespace Go.Proofs.YtejgpbhionadbaaGreatDoor
open Go.RowKit
structure Bld (w wr:World) (b:Nat) (l:List UInt8):Prop where
 bd:Lib.IsBuilder 314 5 w.heap.size b (Lib.byteCells l) wr
 bel:Bl w wr
theorem aDd {w wr:World}{b:Nat}{l:List UInt8}(h:Bld w wr b l) (c:UInt8) {x:Int}(hx:(c.toNat:Int)=x) (hl:l.length+1<=140737488355328) :
 Calls Tryz.prog 215 #[.pointer (some ⟨b,0,none⟩),.int .u8 x] wr fun e w'=>e=.returned .nilIface/\Bld w w' b (l ++ [c]):=by
 subst hx
 exact (writeByte_any w.heap.size b l c wr h.bd hl h.bel.size).mono fun _ _ q=>⟨q.1,q.2.1,h.bel.trans q.2.2⟩
def clV:Option (List UInt8) -> Value
 | some o=>.tuple #[.string ⟨o.toArray⟩,.nilIface]
 | none=>.tuple #[.string ⟨#[]⟩,.iface 63 (vI 3)]
theorem aKs {b:Nat}{j:Bool}:cG b false j []=some []:=rfl
structure ClS (w wr:World) (s:ByteArray) (b:Nat) (pre:Bool) (k:Nat) (j p:Bool) (o:List UInt8):Prop where
 bld:Bld w wr w.heap.size o
 len:o.length<=k
 go:cgo b pre s.data.toList=(cG b p j (s.data.toList.drop k)).map (o ++ ·)
 jp:p=true -> j=false
 at':p=true ↔ 0<k/\bt s (k - 1)=95
theorem aDs       (s : ByteArray) (hs : s.size ≤ 140737488355327) (b : Nat) (h1 : 2 ≤ b) (h2 : b ≤ 36) (pre : Bool) (w : World) :
    Calls Tryz.prog 177 #[.string s, .int .i64 (b : Int), .bool pre] w fun e w' => e = .returned (clV (fP    b pre s.data.toList)) ∧ Below w.heap.size w w' := by
  have V := fun W => uX        (b : Int) (by omega) (by omega) W
  have D := fun c W => oP          c b h2 W
  have G := grow_any w.heap.size w.heap.size s.size (w.alloc (.cells #[.pointer none, .slice none 0 0] 314)) (Nat.le_refl _) (heap_alloc_new w _) (by simp) (by omega)
  have HS : Hid (s.size ≤ 140737488355327 ∧ b ≤ 36) := ⟨hs, h2⟩
  have hs2 : s.size ≤ 9223372036854775805 := by omega
  clear hs h1 h2
  obtain ⟨R, hR⟩ : ∃ R, R = fP    b pre s.data.toList := ⟨_, rfl⟩
  rw [← hR]
  have HR : Hid (R = fP    b pre s.data.toList) := hR
  clear hR
  go_enter Tryz.func177, Tryz.ntmps177
  go_wp2_with fail
  refine (V _).mono ?_
  rintro e w ⟨rfl, rfl⟩
  go_wp2_with fail
  refine G.mono ?_
  rintro e w1 ⟨rfl, d1, b1⟩
  clear G V
  have B1 : Hid (ClS w w1 s b pre 0 pre false []) := ⟨⟨d1, ((Below.refl _ _).alloc (Nat.le_refl _) _).trans b1⟩, Nat.le_refl _, by rw [List.drop_zero, aGb     ]; simp, fun h => (by cases h), ⟨fun h => (by cases h), fun h => absurd h.1 (by omega)⟩⟩
  clear d1 b1
  go_wp2
  go_loopw [9, 22] (fun j i wr => ∃ (k : Nat) (jb p : Bool) (o : List UInt8), k ≤ s.size ∧ j = .bool jb ∧ i = .int .i64 (k : Int) ∧ Hid (ClS w wr s b pre k jb p o)) (fun _ i _ => s.size - (intOf i).toNat)
  case atStart => exact ⟨0, pre, false, [], Nat.zero_le _, rfl, rfl, B1⟩
  case round =>
    clear B1
    obtain ⟨k, jb, p, o, hk, rfl, rfl, B3⟩ := hrel
    by_cases hlt : k < s.size
    · have HT : Hid (s.data.toList.drop k = (s[k]'hlt) :: s.data.toList.drop (k + 1)) := bN      s hlt
      have HBT : Hid (bt s k = (s[k]'hlt).toNat) := nS    hlt
      obtain ⟨c, hc⟩ : ∃ c, s[k]'hlt = c := ⟨_, rfl⟩
      rw [hc] at HT HBT
      have hc' : (((s[k]'hlt).toNat : Nat) : Int) = (c.toNat : Int) := by rw [hc]
      have D1 := fun W => D c W
      by_cases q : isD b c = true
      · have HQ : Hid (isD b c = true) := q
        rw [q] at D1
        clear hc D q
        go_wp2_with fail
        refine (D1 _).mono ?_
        rintro e wr ⟨rfl, rfl⟩
        go_wp2_with fail
        refine (aDd       B3.out.bld c rfl (by have := B3.out.len; have := HS.out; omega)).mono ?_
        rintro e w5 ⟨rfl, b5⟩
        have B5 : Hid (ClS w w5 s b pre (k + 1) true false (o ++ [c])) := ⟨b5, by have := B3.out.len; simp; omega, aGS      (by rw [B3.out.go, HT.out, aGa      HQ.out]), fun h => (by cases h), ⟨fun h => (by cases h), fun h => by
          have z := h.2
          rw [Nat.add_sub_cancel, HBT.out] at z
          have z2 : c = 95 := UInt8.toNat_inj.mp z
          have := HQ.out
          rw [z2, jN      b HS.out.2] at this
          cases this⟩⟩
        clear b5
        go_wp2
        go_roundw
        case rel => exact ⟨k + 1, true, false, o ++ [c], by omega, rfl, by go_num, B5⟩
        case measure => simp [intOf]; omega
      · have q' : isD b c = false := by simpa using q
        have HQ : Hid (isD b c = false) := q'
        rw [q'] at D1
        clear q q' D
        by_cases z : c = 95
        · have hc2 : (((s[k]'hlt).toNat : Nat) : Int) = 95 := by rw [hc, z]; rfl
          have D2 := D1
          rw [z] at D2
          have D3 : ∀ W, Calls Tryz.prog 213 #[.int .u8 95, .int .i64 (b : Int)] W fun e w' => e = .returned (.bool false) ∧ w' = W := D2
          have HC : Hid (c = 95) := z
          clear hc hc' z D1 D2
          cases jb with
          | true =>
            have hp : p = false := by
              cases p with
              | false => rfl
              | true => have := B3.out.jp rfl; cases this
            subst hp
            go_wp2_with fail
            refine (D3 _).mono ?_
            rintro e wr ⟨rfl, rfl⟩
            have B5 : Hid (ClS w wr s b pre (k + 1) false true o) := ⟨B3.out.bld, by have := B3.out.len; omega, by rw [B3.out.go, HT.out, aKr    HQ.out HC.out], fun _ => rfl, ⟨fun _ => ⟨by omega, by rw [Nat.add_sub_cancel, HBT.out, HC.out]; rfl⟩, fun _ => rfl⟩⟩
            go_wp2
            go_roundw
            case rel => exact ⟨k + 1, false, true, o, by omega, rfl, by go_num, B5⟩
            case measure => simp [intOf]; omega
          | false =>
            have HN : Hid (R = none) := by
              show _ = _
              rw [HR.out]
              exact gB         (by rw [B3.out.go, HT.out, aDn    HQ.out (fun y => by cases y.2)]; rfl)
            go_wp2_with fail
            refine (D3 _).mono ?_
            rintro e wr ⟨rfl, rfl⟩
            go_wp2
            go_ret2
            exact ⟨by rw [HN.out]; rfl, B3.out.bld.bel⟩
        · have z2 : ((c.toNat : Int) == 95) = false := by
            refine beq_eq_false_iff_ne.mpr fun y => z (UInt8.toNat_inj.mp ?_)
            exact Int.ofNat_inj.mp y
          have HN : Hid (R = none) := by
            show _ = _
            rw [HR.out]
            exact gB         (by rw [B3.out.go, HT.out, aDn    HQ.out (fun y => z y.1)]; rfl)
          clear hc z
          go_wp2_with fail
          refine (D1 _).mono ?_
          rintro e wr ⟨rfl, rfl⟩
          go_wp2
          go_ret2
          exact ⟨by rw [HN.out]; rfl, B3.out.bld.bel⟩
    · obtain rfl : k = s.size := by omega
      have HE : Hid (cgo b pre s.data.toList = (cG b p jb []).map (o ++ ·)) := by
        have := B3.out.go
        rw [bP       s hlt] at this
        exact this
      have L := blen_any w.heap.size w.heap.size o wr B3.out.bld.bd
      by_cases ho : o = []
      · have HN : Hid (R = none) := by
          show _ = _
          rw [HR.out]
          cases p with
          | true => exact gB         (by rw [HE.out]; rfl)
          | false => exact aDq       (by rw [HE.out, ho]; rfl)
        have hl : (o.length : Int) = 0 := by rw [ho]; rfl
        rw [hl] at L
        clear ho hl D
        go_wp2_with fail
        refine L.mono ?_
        rintro e wr ⟨rfl, rfl⟩
        go_wp2
        go_ret2
        exact ⟨by rw [HN.out]; rfl, B3.out.bld.bel⟩
      · have hl : ((o.length : Int) == 0) = false := beq_eq_false_iff_ne.mpr fun y => ho (List.length_eq_zero_iff.mp (by omega))
        have hsz : 0 < s.size := by
          have := B3.out.len
          have : o.length ≠ 0 := fun y => ho (List.length_eq_zero_iff.mp y)
          omega
        have hsz1 : s.size - 1 < s.size := by omega
        have HBT : Hid (bt s (s.size - 1) = (s[s.size - 1]'hsz1).toNat) := nS    hsz1
        have HO : Hid (o ≠ []) := ho
        clear ho D
        generalize hln : (o.length : Int) = ln at *
        cases p with
        | true =>
          have HN : Hid (R = none) := by
            show _ = _
            rw [HR.out]
            exact gB         (by rw [HE.out]; rfl)
          have hz : (((s[s.size - 1]'hsz1).toNat : Nat) : Int) = 95 := by
            have := (B3.out.at'.1 rfl).2
            rw [HBT.out] at this
            rw [this]; rfl
          go_wp2_with fail
          refine L.mono ?_
          rintro e wr ⟨rfl, rfl⟩
          go_wp2
          go_ret2
          exact ⟨by rw [HN.out]; rfl, B3.out.bld.bel⟩
        | false =>
          have HN : Hid (R = some o) := by
            show _ = _
            rw [HR.out]
            exact pZ         (by rw [HE.out, aKs   ]; simp) HO.out
          have hz : ((((s[s.size - 1]'hsz1).toNat : Nat) : Int) == 95) = false := by
            refine beq_eq_false_iff_ne.mpr fun y => ?_
            have : bt s (s.size - 1) = 95 := by rw [HBT.out]; exact Int.ofNat_inj.mp y
            have := B3.out.at'.2 ⟨hsz, this⟩
            cases this
          have T := string_any _ _ _ _ B3.out.bld.bd B3.out.bld.bel.size
          go_wp2_with fail
          refine L.mono ?_
          rintro e wr ⟨rfl, rfl⟩
          go_wp2_with fail
          refine T.mono ?_
          rintro e w4 ⟨rfl, b4⟩
          have B4 := B3.out.bld.bel.trans b4
          go_wp2
          go_ret2
          exact ⟨by rw [HN.out]; rfl, B4⟩
theorem below_drewN {n:Nat}{w W:World}(h:Below n w W) (k:Nat):Below n w (W.drewN k):=⟨h.1,h.2,h.3,h.4,h.5⟩
theorem lA (l:List UInt8) (hl:l.length<=140737488351256) (b:Nat) (h1:2<=b) (h2:b<=36) (w:World):Cb 129 #[.string (sB (l.take (rch b false l))),vI (b:Int)] w (.string (sB (rdg b false l))):=by
 have hz:(sB (l.take (rch b false l))).size<=140737488355327:=by rw [aA,List.length_take];omega
 have C:=aDs (sB (l.take (rch b false l))) hz b h1 h2 false w
 rw [bR,aDr] at C
 by_cases q:rch b false l=0
 . rw [if_pos q] at C
   have C2:Cb 177 #[.string (sB (l.take (rch b false l))),vI (b:Int),.bool false] w (.tuple #[.string ⟨#[]⟩,.iface 63 (vI 3)]):=C
   rw [dI.2 q,show sB []=⟨#[]⟩ from rfl]
   clear C q hz
   generalize sB (l.take (rch b false l))=s at *
   go_enter Tryz.func129,Tryz.ntmps129
   go_wp2_with fail
   refine C2.mono ?_
   rintro e w1 ⟨rfl,b1⟩
   go_wp2
   go_ret
   exact ⟨rfl,b1⟩
 . rw [if_neg q] at C
   have C2:Cb 177 #[.string (sB (l.take (rch b false l))),vI (b:Int),.bool false] w (.tuple #[.string (sB (rdg b false l)),.nilIface]):=C
   clear C q hz
   generalize sB (l.take (rch b false l))=s at *
   generalize sB (rdg b false l)=t at *
   go_enter Tryz.func129,Tryz.ntmps129
   go_wp2_with fail
   refine C2.mono ?_
   rintro e w1 ⟨rfl,b1⟩
   go_wp2
   go_ret
   exact ⟨rfl,b1⟩
def rwV:Option (List UInt8 × List UInt8 × Nat) -> Value
 | none=>.tuple #[.string ⟨#[]⟩,.string ⟨#[]⟩,vI 0]
 | some (W,P,n)=>.tuple #[.string (sB W),.string (sB P),vI (n:Int)]
theorem pL       (l : List UInt8) (hl : l.length ≤ 140737488351256) (b : Nat) (h1 : 2 ≤ b) (h2 : b ≤ 36) (w : World) : Calls Tryz.prog 97 #[.string (sB l), .int .i64 (b : Int)] w fun e w' => e = .returned (rwV (mnt b false l)) ∧ Below w.heap.size w w' := by
  have R := fun W => oG      l hl b h1 h2 W
  have C := fun W => lA         l hl b h1 h2 W
  have P : ∀ W, Calls Tryz.prog 130 #[.string (sB (l.drop (rch b false l))), .string ⟨#[46]⟩] W fun e w' => e = .returned (cpV 46 (l.drop (rch b false l))) ∧ w' = W := fun W => vM            (l.drop (rch b false l)) (by rw [List.length_drop]; omega) 46 W
  have x1 := eO    l (rch b false l)
  have x2 := aJ      l (rch b false l)
  have rl := bT     b l false
  have hs : (sB l).size ≤ 140737488351256 := hl
  have hn : rch b false l ≤ (sB l).size := rl
  have hn' : (rch b false l : Int) ≤ ((sB l).size : Int) := by omega
  have hn0 : (0 : Int) ≤ (rch b false l : Int) := by omega
  cases q : bgn 46 (l.drop (rch b false l)) with
  | false =>
    have HV : Hid (rwV (mnt b false l) = .tuple #[.string (sB (rdg b false l)), .string ⟨#[]⟩, .int .i64 (rch b false l : Int)]) := by
      have q' : ¬ hdC (l.drop (rch b false l)) = 46 := of_decide_eq_false q
      show _ = _
      unfold mnt
      rw [if_neg q']
      by_cases z : rch b false l = 0
      · rw [if_pos z,      dI.2 z, z]; rfl
      · rw [if_neg z]; rfl
    rw [HV.out]
    have P2 : ∀ W, Calls Tryz.prog 130 #[.string (sB (l.drop (rch b false l))), .string ⟨#[46]⟩] W fun e w' => e = .returned (.tuple #[.string (sB (l.drop (rch b false l))), .bool false]) ∧ w' = W := fun W => by
      have := P W; unfold cpV at this; rw [q] at this; exact this
    clear P q HV rl hl
    generalize rch b false l = n at *
    generalize sB (rdg b false l) = t at *
    generalize sB (l.take n) = u at *
    generalize sB (l.drop n) = v at *
    generalize sB l = s at *
    go_enter Tryz.func97, Tryz.ntmps97
    go_wp2_with fail
    refine (R _).mono ?_
    rintro e w ⟨rfl, rfl⟩
    go_wp2_with fail
    refine (C _).mono ?_
    rintro e w1 ⟨rfl, b1⟩
    go_wp2_with fail
    refine (P2 _).mono ?_
    rintro e w1 ⟨rfl, rfl⟩
    go_wp2
    refine bodyPost_ret (results_tmp3 rfl _ _ _) rfl ?_
    exact ⟨rfl, b1⟩
  | true =>
    have q' : hdC (l.drop (rch b false l)) = 46 := of_decide_eq_true q
    have P2 : ∀ W, Calls Tryz.prog 130 #[.string (sB (l.drop (rch b false l))), .string ⟨#[46]⟩] W fun e w' => e = .returned (.tuple #[.string (sB (l.drop (rch b false l + 1))), .bool true]) ∧ w' = W := fun W => by
      have := P W; unfold cpV at this; rw [q] at this; rw [← List.drop_drop]; exact this
    have hl2 : (l.drop (rch b false l + 1)).length ≤ 140737488351256 := by rw [List.length_drop]; omega
    have R2 := fun W => oG      (l.drop (rch b false l + 1)) hl2 b h1 h2 W
    have C2 := fun W => lA         (l.drop (rch b false l + 1)) hl2 b h1 h2 W
    have x3 := eO    (l.drop (rch b false l + 1)) (rch b false (l.drop (rch b false l + 1)))
    have rl2 := bT     b (l.drop (rch b false l + 1)) false
    have hs2 : (sB (l.drop (rch b false l + 1))).size ≤ 140737488351256 := hl2
    have hm' : (rch b false (l.drop (rch b false l + 1)) : Int) ≤ ((sB (l.drop (rch b false l + 1))).size : Int) := by rw [aA     ]; omega
    have hm0 : (0 : Int) ≤ (rch b false (l.drop (rch b false l + 1)) : Int) := by omega
    have HV : Hid (rwV (mnt b false l) = if rch b false l + rch b false (l.drop (rch b false l + 1)) = 0 then .tuple #[.string ⟨#[]⟩, .string ⟨#[]⟩, .int .i64 0] else .tuple #[.string (sB (rdg b false l)), .string (sB (rdg b false (l.drop (rch b false l + 1)))), .int .i64 ((rch b false l + 1 + rch b false (l.drop (rch b false l + 1)) : Nat) : Int)]) := by
      show _ = _
      unfold mnt
      rw [if_pos q']
      by_cases z : rch b false l + rch b false (l.drop (rch b false l + 1)) = 0
      · rw [if_pos z, if_pos z]; rfl
      · rw [if_neg z, if_neg z]; rfl
    rw [HV.out]
    clear P q HV rl hl q' hl2 rl2
    generalize rch b false (l.drop (rch b false l + 1)) = m at *
    generalize sB (rdg b false (l.drop (rch b false l + 1))) = t2 at *
    generalize sB ((l.drop (rch b false l + 1)).take m) = u2 at *
    generalize sB (l.drop (rch b false l + 1)) = v2 at *
    generalize rch b false l = n at *
    generalize sB (rdg b false l) = t at *
    generalize sB (l.take n) = u at *
    generalize sB (l.drop n) = v at *
    generalize sB l = s at *
    by_cases z : n + m = 0
    · rw [if_pos z]
      have z' : ((n : Int) + (m : Int) == 0) = true := beq_iff_eq.mpr (by omega)
      clear z
      go_enter Tryz.func97, Tryz.ntmps97
      go_wp2_with fail
      refine (R _).mono ?_
      rintro e w ⟨rfl, rfl⟩
      go_wp2_with fail
      refine (C _).mono ?_
      rintro e w1 ⟨rfl, b1⟩
      go_wp2_with fail
      refine (P2 _).mono ?_
      rintro e w1 ⟨rfl, rfl⟩
      go_wp2_with fail
      refine (R2 _).mono ?_
      rintro e w1 ⟨rfl, rfl⟩
      go_wp2
      refine bodyPost_ret (results_tmp3 rfl _ _ _) rfl ?_
      exact ⟨rfl, b1⟩
    · rw [if_neg z]
      have z' : ((n : Int) + (m : Int) == 0) = false := beq_eq_false_iff_ne.mpr (by omega)
      go_enter Tryz.func97, Tryz.ntmps97
      go_wp2_with fail
      refine (R _).mono ?_
      rintro e w ⟨rfl, rfl⟩
      go_wp2_with fail
      refine (C _).mono ?_
      rintro e w1 ⟨rfl, b1⟩
      go_wp2_with fail
      refine (P2 _).mono ?_
      rintro e w1 ⟨rfl, rfl⟩
      go_wp2_with fail
      refine (R2 _).mono ?_
      rintro e w1 ⟨rfl, rfl⟩
      go_wp2_with fail
      refine (C2 _).mono ?_
      rintro e w2 ⟨rfl, b2⟩
      have B2 := b1.trans (b2.mono b1.size)
      clear b1 b2
      go_wp2
      refine bodyPost_ret (results_tmp3 rfl _ _ _) rfl ?_
      exact ⟨by simp, B2⟩
def aAx:Option (Int × Nat) -> Value
 | none=>.tuple #[vI 0,vI 0]
 | some (e,m)=>.tuple #[vI e,vI (m:Int)]
theorem aFm    (r : List UInt8) : ((sB (r.take (sgA r))).toList == [45]) = sgM r := by
  rw [dD       , bR     ]
  cases r with
  | nil => rfl
  | cons c r =>
    by_cases h : c = 43 ∨ c = 45
    · rw [oH      h]
      rcases h with h | h <;> subst h <;> rfl
    · rw [aAy    h, List.take_zero]
      have : (c == 45) = false := beq_eq_false_iff_ne.mpr (fun y => h (Or.inr y))
      show _ = (c == 45)
      rw [this]; rfl
theorem aKK {L:Nat}{c:UInt8}{r:List UInt8}(h:(sml c).toNat ≠ L):exn L (c :: r)=none:=by show (if _ then _ else _)=_;rw [if_neg h]
theorem aGu {L:Nat}{c:UInt8}{r:List UInt8}(h:rch 10 false (r.drop (sgA r))=0):exn L (c :: r)=none:=by
 show (if _ then _ else _)=_
 by_cases q:(sml c).toNat=L
 . rw [if_pos q,if_pos h]
 . rw [if_neg q]
theorem aIz {L:Nat}{c:UInt8}{r:List UInt8}(h:(sml c).toNat=L) (h2:rch 10 false (r.drop (sgA r)) ≠ 0):exn L (c :: r)=some (dK r,1+sgA r+rch 10 false (r.drop (sgA r))):=by show (if _ then _ else _)=_;rw [if_pos h,if_neg h2]
theorem cZ           (l : List UInt8) (hl : l.length ≤ 140737488351256) (L : UInt8) (w : World) : Calls Tryz.prog 98 #[.string (sB l), .int .u8 (L.toNat : Int)] w fun e w' => e = .returned (aAx  (exn L.toNat l)) ∧ Below w.heap.size w w' := by
  cases l with
  | nil =>
    rw [show aAx  (exn L.toNat []) = .tuple #[.int .i64 0, .int .i64 0] from rfl, show sB [] = ⟨#[]⟩ from rfl]
    go_enter Tryz.func98, Tryz.ntmps98
    go_wp2
    go_ret2
    exact ⟨rfl, Below.refl _ _⟩
  | cons c r =>
    have hp : 0 < (sB (c :: r)).size := by rw [aA     ]; simp
    have hne := aI          hp
    have h00 : (sB (c :: r))[0]'hp = c := rfl
    have hc' : ((((sB (c :: r))[0]'hp).toNat : Nat) : Int) = (c.toNat : Int) := by rw [h00]
    have SM := fun W => uT        c W
    have x2 : (sB (c :: r)).extract 1 (sB (c :: r)).size = sB r := aJ      _ _
    have hbig : (sB (c :: r)).size ≤ 140737488351256 := hl
    have hr : r.length ≤ 140737488351256 := by simp at hl; omega
    by_cases q : (sml c).toNat = L.toNat
    · rw [q] at SM
      have T := fun W => nB           r hr W
      unfold txV at T
      have sg := gU      r
      have sgl := mW     r
      have hd : (r.drop (sgA r)).length ≤ 140737488351256 := by rw [List.length_drop]; omega
      have R : ∀ W, Calls Tryz.prog 128 #[.string (sB (r.drop (sgA r))), .int .i64 10] W fun e w' => e = .returned (.int .i64 (rch 10 false (r.drop (sgA r)) : Int)) ∧ w' = W := fun W => oG      (r.drop (sgA r)) hd 10 (by omega) (by omega) W
      have hsA : (sB (r.take (sgA r))).size = sgA r := by rw [aA     , List.length_take]; omega
      have hsB : (sB (r.drop (sgA r))).size ≤ 140737488351256 := hd
      have rl := bT     10 (r.drop (sgA r)) false
      have hn' : (rch 10 false (r.drop (sgA r)) : Int) ≤ ((sB (r.drop (sgA r))).size : Int) := by rw [aA     ]; omega
      have hn0 : (0 : Int) ≤ (rch 10 false (r.drop (sgA r)) : Int) := by omega
      by_cases z : rch 10 false (r.drop (sgA r)) = 0
      · rw [aGu      z]
        show Calls _ _ _ _ fun e w' => e = .returned (.tuple #[.int .i64 0, .int .i64 0]) ∧ _
        rw [z] at R
        clear h00 q hl hr rl hd z hn' hn0 sgl
        generalize sB (c :: r) = s at *
        generalize sB (r.take (sgA r)) = A at *
        generalize sB (r.drop (sgA r)) = B at *
        generalize sB r = s2 at *
        go_enter Tryz.func98, Tryz.ntmps98
        go_wp2_with fail
        refine (SM _).mono ?_
        rintro e w ⟨rfl, rfl⟩
        go_wp2_with fail
        refine (T _).mono ?_
        rintro e w1 ⟨rfl, b1⟩
        have B1 : Hid (Below w.heap.size w w1) := b1
        clear b1
        go_wp2_with fail
        refine (R _).mono ?_
        rintro e w2 ⟨rfl, rfl⟩
        go_wp2
        go_ret2
        exact ⟨rfl, (((B1.out.alloc B1.out.size _)))⟩
      · rw [aIz     q z]
        show Calls _ _ _ _ fun e w' => e = .returned (.tuple #[.int .i64 (dK   r), .int .i64 ((1 + sgA r + rch 10 false (r.drop (sgA r)) : Nat) : Int)]) ∧ _
        have C : ∀ W, Calls Tryz.prog 129 #[.string (sB ((r.drop (sgA r)).take (rch 10 false (r.drop (sgA r))))), .int .i64 10] W fun e w' => e = .returned (.string (sB (rdg 10 false (r.drop (sgA r))))) ∧ Below W.heap.size W w' := fun W => lA         (r.drop (sgA r)) hd 10 (by omega) (by omega) W
        have hlen := gS      (b := 10) (r.drop (sgA r)) false
        have N : ∀ W, Calls Tryz.prog 131 #[.string (sB (rdg 10 false (r.drop (sgA r))))] W fun e w' => e = .returned (.int .i64 (cnt 0 (rdg 10 false (r.drop (sgA r))) : Int)) ∧ w' = W := fun W => aDw       (sB (rdg 10 false (r.drop (sgA r)))) (by rw [aA     ]; omega) (fun c hc => fI      _ _ _ hc) W
        have x3 := eO    (r.drop (sgA r)) (rch 10 false (r.drop (sgA r)))
        have se := aFm    r
        have hnz : ((rch 10 false (r.drop (sgA r)) : Int) == 0) = false := beq_eq_false_iff_ne.mpr (by omega)
        have hcm := xM     (rdg 10 false (r.drop (sgA r))) 0 (by omega)
        have HE : Hid (dK   r = if sgM r = true then -(cnt 0 (rdg 10 false (r.drop (sgA r))) : Int) else (cnt 0 (rdg 10 false (r.drop (sgA r))) : Int)) := rfl
        have hrb : rch 10 false (r.drop (sgA r)) ≤ 140737488351256 := by omega
        clear h00 q hl hr rl hd z sgl hlen
        generalize dK   r = X at *
        generalize cnt 0 (rdg 10 false (r.drop (sgA r))) = K at *
        generalize sB (rdg 10 false (r.drop (sgA r))) = D at *
        generalize sB ((r.drop (sgA r)).take (rch 10 false (r.drop (sgA r)))) = E at *
        generalize rch 10 false (r.drop (sgA r)) = n at *
        generalize sB (c :: r) = s at *
        generalize sB (r.take (sgA r)) = A at *
        generalize sB (r.drop (sgA r)) = B at *
        generalize sB r = s2 at *
        generalize sgA r = g at *
        cases hsg : sgM r with
        | true =>
          rw [hsg] at se HE
          have HE2 : Hid (X = -(K : Int)) := by have := HE.out; rw [if_pos rfl] at this; exact this
          clear HE hsg
          go_enter Tryz.func98, Tryz.ntmps98
          go_wp2_with fail
          refine (SM _).mono ?_
          rintro e w ⟨rfl, rfl⟩
          go_wp2_with fail
          refine (T _).mono ?_
          rintro e w1 ⟨rfl, b1⟩
          have B1 : Hid (Below w.heap.size w w1) := b1
          clear b1
          go_wp2_with fail
          refine (R _).mono ?_
          rintro e w2 ⟨rfl, rfl⟩
          go_wp2_with fail
          refine (C _).mono ?_
          rintro e w3 ⟨rfl, b3⟩
          have hc0 : w3.cell? ⟨w1.heap.size, 0, none⟩ = some (.string A) := (b3.cell (p := ⟨w1.heap.size, 0, none⟩) (by simp)).trans (by simp [go_sem])
          have B3 : Hid (Below w.heap.size w w3) := (B1.out.alloc B1.out.size _).trans (b3.mono (by have := B1.out.size; simp; omega))
          clear b3
          go_wp2_with fail
          refine (N _).mono ?_
          rintro e w3 ⟨rfl, rfl⟩
          go_wp2
          go_quiet (fail)
          go_wp2
          go_ret2
          exact ⟨by rw [HE2.out]; simp, below_drewN B3.out _⟩
        | false =>
          rw [hsg] at se HE
          have HE2 : Hid (X = (K : Int)) := by have := HE.out; rw [if_neg (by decide)] at this; exact this
          clear HE hsg
          go_enter Tryz.func98, Tryz.ntmps98
          go_wp2_with fail
          refine (SM _).mono ?_
          rintro e w ⟨rfl, rfl⟩
          go_wp2_with fail
          refine (T _).mono ?_
          rintro e w1 ⟨rfl, b1⟩
          have B1 : Hid (Below w.heap.size w w1) := b1
          clear b1
          go_wp2_with fail
          refine (R _).mono ?_
          rintro e w2 ⟨rfl, rfl⟩
          go_wp2_with fail
          refine (C _).mono ?_
          rintro e w3 ⟨rfl, b3⟩
          have hc0 : w3.cell? ⟨w1.heap.size, 0, none⟩ = some (.string A) := (b3.cell (p := ⟨w1.heap.size, 0, none⟩) (by simp)).trans (by simp [go_sem])
          have B3 : Hid (Below w.heap.size w w3) := (B1.out.alloc B1.out.size _).trans (b3.mono (by have := B1.out.size; simp; omega))
          clear b3
          go_wp2_with fail
          refine (N _).mono ?_
          rintro e w3 ⟨rfl, rfl⟩
          go_wp2
          go_quiet (fail)
          go_wp2
          go_ret2
          exact ⟨by rw [HE2.out]; simp, below_drewN B3.out _⟩
    · have q2 : (((sml c).toNat : Int) != (L.toNat : Int)) = true := bne_iff_ne.mpr fun y => q (Int.ofNat_inj.1 y)
      rw [aKK    q]
      show Calls _ _ _ _ fun e w' => e = .returned (.tuple #[.int .i64 0, .int .i64 0]) ∧ _
      clear h00 q hl hr x2
      generalize ((sml c).toNat : Int) = x at *
      generalize (L.toNat : Int) = y at *
      generalize sB (c :: r) = s at *
      go_enter Tryz.func98, Tryz.ntmps98
      go_wp2_with fail
      refine (SM _).mono ?_
      rintro e w ⟨rfl, rfl⟩
      go_wp2
      go_ret2
      exact ⟨rfl, Below.refl _ _⟩
end Go.Proofs.YtejgpbhionadbaaGreatDoor
