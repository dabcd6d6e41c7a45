/-
  Holds: UScC.
-/
import Derived.Test.YtejgpbhionadbaaGreatDoorChecked
import Derived.WalkKit
import Derived.Deep.DeepMust
import Derived.Test.YtejgpbhionadbaaGreatDoorShelf
import Derived.Deep.RegionHeld3
import Derived.Test.YtejgpbhionadbaaGreatDoorXg28
set_option maxRecDepth 100000
set_option maxHeartbeats 4000000
namespace Go.Proofs.YtejgpbhionadbaaGreatDoor
open Go.RowKit
structure Bld (w wr:World) (b:Nat) (l:List UInt8):Prop where
 bd:Lib.IsBuilder 314 5 w.heap.size b (Lib.byteCells l) wr
 bel:Bl w wr
theorem bld_write {w wr:World}{b:Nat}{l:List UInt8}(h:Bld w wr b l) (c:UInt8) {x:Int}(hx:(c.toNat:Int)=x) (hl:l.length+1≤140737488355328) :
 Calls Tryz.prog 215 #[.pointer (some ⟨b,0,none⟩),.int .u8 x] wr fun e w'=>e=.returned .nilIface∧Bld w w' b (l ++ [c]):=by
 subst hx
 exact (writeByte_any w.heap.size b l c wr h.bd hl h.bel.size).mono fun _ _ q=>⟨q.1,q.2.1,h.bel.trans q.2.2⟩
def clV:Option (List UInt8) → Value
 | some o=>.tuple #[.string ⟨o.toArray⟩,.nilIface]
 | none=>.tuple #[.string ⟨#[]⟩,.iface 63 (vI 3)]
theorem cG_nil {b:Nat}{j:Bool}:cG b false j []=some []:=rfl
structure ClS (w wr:World) (s:ByteArray) (b:Nat) (pre:Bool) (k:Nat) (j p:Bool) (o:List UInt8):Prop where
 bld:Bld w wr w.heap.size o
 len:o.length≤k
 go:cgo b pre s.data.toList=(cG b p j (s.data.toList.drop k)).map (o ++ ·)
 jp:p=true → j=false
 at':p=true ↔ 0<k∧bt s (k - 1)=95
theorem clean_yes (s : ByteArray) (hs : s.size ≤ 140737488355327) (b : Nat) (h1 : 2 ≤ b) (h2 : b ≤ 36) (pre : Bool) (w : World) :
    Calls Tryz.prog 177 #[.string s, .int .i64 (b : Int), .bool pre] w fun e w' => e = .returned (clV (clean b pre s.data.toList)) ∧ Below w.heap.size w w' := by
  have V := fun W => valid_yes (b : Int) (by omega) (by omega) W
  have D := fun c W => isDigit_any c b h2 W
  have G := grow_any w.heap.size w.heap.size s.size (w.alloc (.cells #[.pointer none, .slice none 0 0] 314)) (Nat.le_refl _) (heap_alloc_new w _) (by simp) (by omega)
  have HS : Hid (s.size ≤ 140737488355327 ∧ b ≤ 36) := ⟨hs, h2⟩
  have hs2 : s.size ≤ 9223372036854775805 := by omega
  clear hs h1 h2
  obtain ⟨R, hR⟩ : ∃ R, R = clean b pre s.data.toList := ⟨_, rfl⟩
  rw [← hR]
  have HR : Hid (R = clean b pre s.data.toList) := hR
  clear hR
  go_enter Tryz.func177, Tryz.ntmps177
  go_wp2_with fail
  refine (V _).mono ?_
  rintro e w ⟨rfl, rfl⟩
  go_wp2_with fail
  refine G.mono ?_
  rintro e w1 ⟨rfl, d1, b1⟩
  clear G V
  have B1 : Hid (ClS w w1 s b pre 0 pre false []) := ⟨⟨d1, ((Below.refl _ _).alloc (Nat.le_refl _) _).trans b1⟩, Nat.le_refl _, by rw [List.drop_zero, cG_start]; simp, fun h => (by cases h), ⟨fun h => (by cases h), fun h => absurd h.1 (by omega)⟩⟩
  clear d1 b1
  go_wp2
  go_loopw [9, 22] (fun j i wr => ∃ (k : Nat) (jb p : Bool) (o : List UInt8), k ≤ s.size ∧ j = .bool jb ∧ i = .int .i64 (k : Int) ∧ Hid (ClS w wr s b pre k jb p o)) (fun _ i _ => s.size - (intOf i).toNat)
  case atStart => exact ⟨0, pre, false, [], Nat.zero_le _, rfl, rfl, B1⟩
  case round =>
    clear B1
    obtain ⟨k, jb, p, o, hk, rfl, rfl, B3⟩ := hrel
    by_cases hlt : k < s.size
    · have HT : Hid (s.data.toList.drop k = (s[k]'hlt) :: s.data.toList.drop (k + 1)) := drop_at s hlt
      have HBT : Hid (bt s k = (s[k]'hlt).toNat) := bt_in hlt
      obtain ⟨c, hc⟩ : ∃ c, s[k]'hlt = c := ⟨_, rfl⟩
      rw [hc] at HT HBT
      have hc' : (((s[k]'hlt).toNat : Nat) : Int) = (c.toNat : Int) := by rw [hc]
      have D1 := fun W => D c W
      by_cases q : isD b c = true
      · have HQ : Hid (isD b c = true) := q
        rw [q] at D1
        clear hc D q
        go_wp2_with fail
        refine (D1 _).mono ?_
        rintro e wr ⟨rfl, rfl⟩
        go_wp2_with fail
        refine (bld_write B3.out.bld c rfl (by have := B3.out.len; have := HS.out; omega)).mono ?_
        rintro e w5 ⟨rfl, b5⟩
        have B5 : Hid (ClS w w5 s b pre (k + 1) true false (o ++ [c])) := ⟨b5, by have := B3.out.len; simp; omega, map_step (by rw [B3.out.go, HT.out, cG_digit HQ.out]), fun h => (by cases h), ⟨fun h => (by cases h), fun h => by
          have z := h.2
          rw [Nat.add_sub_cancel, HBT.out] at z
          have z2 : c = 95 := UInt8.toNat_inj.mp z
          have := HQ.out
          rw [z2, isD_bar b HS.out.2] at this
          cases this⟩⟩
        clear b5
        go_wp2
        go_roundw
        case rel => exact ⟨k + 1, true, false, o ++ [c], by omega, rfl, by go_num, B5⟩
        case measure => simp [intOf]; omega
      · have q' : isD b c = false := by simpa using q
        have HQ : Hid (isD b c = false) := q'
        rw [q'] at D1
        clear q q' D
        by_cases z : c = 95
        · have hc2 : (((s[k]'hlt).toNat : Nat) : Int) = 95 := by rw [hc, z]; rfl
          have D2 := D1
          rw [z] at D2
          have D3 : ∀ W, Calls Tryz.prog 213 #[.int .u8 95, .int .i64 (b : Int)] W fun e w' => e = .returned (.bool false) ∧ w' = W := D2
          have HC : Hid (c = 95) := z
          clear hc hc' z D1 D2
          cases jb with
          | true =>
            have hp : p = false := by
              cases p with
              | false => rfl
              | true => have := B3.out.jp rfl; cases this
            subst hp
            go_wp2_with fail
            refine (D3 _).mono ?_
            rintro e wr ⟨rfl, rfl⟩
            have B5 : Hid (ClS w wr s b pre (k + 1) false true o) := ⟨B3.out.bld, by have := B3.out.len; omega, by rw [B3.out.go, HT.out, cG_bar HQ.out HC.out], fun _ => rfl, ⟨fun _ => ⟨by omega, by rw [Nat.add_sub_cancel, HBT.out, HC.out]; rfl⟩, fun _ => rfl⟩⟩
            go_wp2
            go_roundw
            case rel => exact ⟨k + 1, false, true, o, by omega, rfl, by go_num, B5⟩
            case measure => simp [intOf]; omega
          | false =>
            have HN : Hid (R = none) := by
              show _ = _
              rw [HR.out]
              exact clean_none (by rw [B3.out.go, HT.out, cG_bad HQ.out (fun y => by cases y.2)]; rfl)
            go_wp2_with fail
            refine (D3 _).mono ?_
            rintro e wr ⟨rfl, rfl⟩
            go_wp2
            go_ret2
            exact ⟨by rw [HN.out]; rfl, B3.out.bld.bel⟩
        · have z2 : ((c.toNat : Int) == 95) = false := by
            refine beq_eq_false_iff_ne.mpr fun y => z (UInt8.toNat_inj.mp ?_)
            exact Int.ofNat_inj.mp y
          have HN : Hid (R = none) := by
            show _ = _
            rw [HR.out]
            exact clean_none (by rw [B3.out.go, HT.out, cG_bad HQ.out (fun y => z y.1)]; rfl)
          clear hc z
          go_wp2_with fail
          refine (D1 _).mono ?_
          rintro e wr ⟨rfl, rfl⟩
          go_wp2
          go_ret2
          exact ⟨by rw [HN.out]; rfl, B3.out.bld.bel⟩
    · obtain rfl : k = s.size := by omega
      have HE : Hid (cgo b pre s.data.toList = (cG b p jb []).map (o ++ ·)) := by
        have := B3.out.go
        rw [drop_end s hlt] at this
        exact this
      have L := blen_any w.heap.size w.heap.size o wr B3.out.bld.bd
      by_cases ho : o = []
      · have HN : Hid (R = none) := by
          show _ = _
          rw [HR.out]
          cases p with
          | true => exact clean_none (by rw [HE.out]; rfl)
          | false => exact clean_nil (by rw [HE.out, ho]; rfl)
        have hl : (o.length : Int) = 0 := by rw [ho]; rfl
        rw [hl] at L
        clear ho hl D
        go_wp2_with fail
        refine L.mono ?_
        rintro e wr ⟨rfl, rfl⟩
        go_wp2
        go_ret2
        exact ⟨by rw [HN.out]; rfl, B3.out.bld.bel⟩
      · have hl : ((o.length : Int) == 0) = false := beq_eq_false_iff_ne.mpr fun y => ho (List.length_eq_zero_iff.mp (by omega))
        have hsz : 0 < s.size := by
          have := B3.out.len
          have : o.length ≠ 0 := fun y => ho (List.length_eq_zero_iff.mp y)
          omega
        have hsz1 : s.size - 1 < s.size := by omega
        have HBT : Hid (bt s (s.size - 1) = (s[s.size - 1]'hsz1).toNat) := bt_in hsz1
        have HO : Hid (o ≠ []) := ho
        clear ho D
        generalize hln : (o.length : Int) = ln at *
        cases p with
        | true =>
          have HN : Hid (R = none) := by
            show _ = _
            rw [HR.out]
            exact clean_none (by rw [HE.out]; rfl)
          have hz : (((s[s.size - 1]'hsz1).toNat : Nat) : Int) = 95 := by
            have := (B3.out.at'.1 rfl).2
            rw [HBT.out] at this
            rw [this]; rfl
          go_wp2_with fail
          refine L.mono ?_
          rintro e wr ⟨rfl, rfl⟩
          go_wp2
          go_ret2
          exact ⟨by rw [HN.out]; rfl, B3.out.bld.bel⟩
        | false =>
          have HN : Hid (R = some o) := by
            show _ = _
            rw [HR.out]
            exact clean_some (by rw [HE.out, cG_nil]; simp) HO.out
          have hz : ((((s[s.size - 1]'hsz1).toNat : Nat) : Int) == 95) = false := by
            refine beq_eq_false_iff_ne.mpr fun y => ?_
            have : bt s (s.size - 1) = 95 := by rw [HBT.out]; exact Int.ofNat_inj.mp y
            have := B3.out.at'.2 ⟨hsz, this⟩
            cases this
          have T := string_any _ _ _ _ B3.out.bld.bd B3.out.bld.bel.size
          go_wp2_with fail
          refine L.mono ?_
          rintro e wr ⟨rfl, rfl⟩
          go_wp2_with fail
          refine T.mono ?_
          rintro e w4 ⟨rfl, b4⟩
          have B4 := B3.out.bld.bel.trans b4
          go_wp2
          go_ret2
          exact ⟨by rw [HN.out]; rfl, B4⟩
end Go.Proofs.YtejgpbhionadbaaGreatDoor
