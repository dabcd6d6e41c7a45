/-
  Holds: LawPRoads.
-/
import Derived.Test.YtiminkommimgdaaGreatDoorShelf
import Derived.Lib.ItoaNum
import Derived.WalkSpells
import Derived.WalkLawsBesides
import Derived.Lib.Mul64
import Derived.Lib.TrailingZeros
import Derived.Deep.OwnRows
import Derived.Laws.CopyOwn
import Derived.BigQuiet
import Derived.Deep.RegionHeld3
import Derived.Deep.LoopGhost
import Derived.Deep.AppendLies
import Derived.Deep.DeepCutAuto
import Derived.Stop.Asserts
import Derived.RowKitTokens
import Derived.Lib.BufferWrite
import Derived.Lib.ConvBytes
import Derived.Test.YtiminkommimgdaaGreatDoorRows
import Derived.Laws.EntriesVeiled
import Derived.Test.YtiminkommimgdaaGreatDoorW43
import Derived.Test.YtiminkommimgdaaGreatDoorW47
set_option maxRecDepth 100000
set_option maxHeartbeats 4000000
namespace Go.Proofs.YtiminkommimgdaaGreatDoor
open Go.RowKit
theorem fz_ofR (z:Int):Sn z ∨ ∃ g n f T L,Fz z g n f T L:=by
 by_cases h:z=32
 · exact .inr ⟨_,_,_,_,_,.inl ⟨h,rfl,rfl,rfl,rfl,rfl⟩⟩
 · by_cases h':z=64
   · exact .inr ⟨_,_,_,_,_,.inr ⟨h',rfl,rfl,rfl,rfl,rfl⟩⟩
   · exact .inl ⟨h,h'⟩
theorem light_any (z:Int) {c:Bool}{k:Int}{d:ByteArray}{q:Int}{u:Bool}{m:Nat}{e:Int}{r:Bool}(hk:k=1 → d.size≤800 ∧ -1099511627776≤q∧q≤1099511627776) (w:World) :
 Cb 18 #[ptV c k d q u (m:Int) e r,vI z] w (.bool (if z=32 then ltB 7 10 k u (d.size:Int) q else ltB 15 22 k u (d.size:Int) q)):=by
 by_cases h:z=32
 · rw [if_pos h]
   exact light_32 h hk w
 · rw [if_neg h]
   exact light_64 h hk w
theorem lt_lgt {z:Int}{f T:Nat}{L:Int}{M K:Nat}(hx:Xz z f T L M K) {c:Bool}{k:Int}{dd:List UInt8}{q:Int}{u:Bool}{m:Nat}{e:Int}{r:Bool}(hd:VN (sB dd) q u)
 (h:(if z=32 then ltB 7 10 k u ((sB dd).size:Int) q else ltB 15 22 k u ((sB dd).size:Int) q)=true):Lgt M K ⟨c,k,dd,q,u,m,e,r⟩:=by
 have key:u=false∧((z=32 → (sB dd).size≤7)∧(sB dd).size≤15) ∧ -(K:Int)≤q - ((sB dd).size:Int)∧q - ((sB dd).size:Int)≤K:=by
  rcases hx with ⟨rfl,_,_,_,_,rfl⟩ | ⟨rfl,_,_,_,_,rfl⟩
  · rw [if_pos rfl] at h
    obtain ⟨_,h2,_,h4,h5,h6⟩:=of_decide_eq_true h
    exact ⟨h2,⟨fun _=>by omega,by omega⟩,by omega,by omega⟩
  · rw [if_neg (by decide)] at h
    obtain ⟨_,h2,_,h4,h5,h6⟩:=of_decide_eq_true h
    exact ⟨h2,⟨fun q=>absurd q (by decide),by omega⟩,by omega,by omega⟩
 obtain ⟨k2,k3,k4,k5⟩:=key
 subst k2
 have hk:hdK (sB dd)=(sB dd).size:=by unfold hdK;omega
 have e1:hdE (sB dd) q=q - ((sB dd).size:Int):=by unfold hdE;rw [hk]
 refine ⟨rfl,by show (sB dd).size≤19;omega,few_sure hx hd k3,?_,?_⟩
 · show _≤hdE (sB dd) q
   rw [e1]
   exact k4
 · show hdE (sB dd) q≤_
   rw [e1]
   exact k5
theorem proads_law (l : List UInt8) (hl : l.length ≤ 1048576) (z : Int) (w : World) (hT : Tab w) (hg : ErrT w) :
    Calls Tryz.prog 4 #[.string (sB l), .int .i64 z] w fun o w' => o = .returned (.bool true) ∧ Below w.heap.size w w' := by
  have SC := fun W => rscan_any l hl W
  rcases fz_ofR z with h | ⟨g, n, f, T, L, hz⟩
  · have PP : ∀ W b, Below w.heap.size w W → MS W b 0 0 0 0 0 → w.heap.size ≤ b → Calls Tryz.prog 8 #[.string (sB l), .int .i64 z, mV b] W fun o w' => ∃ v p x1 x2 x3, o = .returned (.tuple #[.int .u64 ((0 : Nat) : Int), v]) ∧ ErV w' 5 cPrs (sB l) v ∧ Below w.heap.size w w' ∧ MS w' b 0 p x1 x2 x3 ∧ p ≤ 1024 ∧ (x1 = 0 ∧ x2 = 0 ∧ x3 = 0) := by
      intro W b hb m _
      refine (parse_no h hl (some ⟨b, 0, none⟩) W).mono ?_
      rintro o w' ⟨v, rfl, e, b'⟩
      exact ⟨v, 0, 0, 0, 0, rfl, e, hb.trans (b'.mono hb.size), m.step b', by decide, rfl, rfl, rfl⟩
    cases hs : scn l with
    | none =>
      rw [hs] at SC
      exact prd_no hT hg PP SC
    | some P =>
      rw [hs] at SC
      obtain ⟨c, k, dd, q, u, m, e, r⟩ := P
      have ok := scn_ok hs
      refine prd_five hT hg (fun W => light_any z (fun hk => ?_) W) PP SC
      rcases ok with ⟨_, h0 | h0⟩ | ⟨h0, _⟩ | h0 | ⟨h0, _⟩
      · have h00 : (sB dd).size = 0 ∧ q = 0 ∧ u = false := h0
        omega
      · exact ⟨h0.len, h0.lo, h0.hi⟩
      · exact absurd (h0.symm.trans hk) (by decide)
      · exact absurd (h0.symm.trans hk) (by decide)
      · exact absurd (h0.symm.trans hk) (by decide)
  · obtain ⟨M, K, hx⟩ : ∃ M K, Xz z f T L M K := by
      rcases hz with ⟨rfl, _, _, rfl, rfl, rfl⟩ | ⟨rfl, _, _, rfl, rfl, rfl⟩
      · exact ⟨_, _, .inl ⟨rfl, rfl, rfl, rfl, rfl, rfl⟩⟩
      · exact ⟨_, _, .inr ⟨rfl, rfl, rfl, rfl, rfl, rfl⟩⟩
    have PA : ∀ W b, Below w.heap.size w W → MS W b 0 0 0 0 0 → w.heap.size ≤ b → Calls Tryz.prog 8 #[.string (sB l), .int .i64 z, mV b] W fun o w' => ∃ v, o = .returned (.tuple #[.int .u64 (((prA g f T L l).1 : Nat) : Int), v]) ∧ ErV w' (prA g f T L l).2 cPrs (sB l) v ∧ Below w.heap.size w w' ∧ Prd (some b) w' M K (scn l) := by
      intro W b hb m lb
      have F : Frm (some b) w W := ⟨hb, fun _ q => by cases q; exact lb⟩
      refine (parse_ok hz hx (mb := some b) (w0 := w) ⟨0, by decide, by decide, m⟩ F hT hl).mono ?_
      rintro o w' ⟨v, rfl, e, b', r⟩
      exact ⟨v, rfl, e, (F.bt b').1, r⟩
    unfold prA at PA
    cases hs : scn l with
    | none =>
      rw [hs] at SC PA
      dsimp only at PA
      refine prd_no (A := 0) (k := 3) hT hg (fun W b hb m lb => (PA W b hb m lb).mono ?_) SC
      rintro o w' ⟨v, rfl, e, b', ⟨p, p0, p1, m'⟩⟩
      exact ⟨v, p, 0, 0, 0, rfl, e, b', m', p1, rfl, rfl, rfl⟩
    | some P =>
      rw [hs] at SC PA
      dsimp only at PA
      obtain ⟨c, k, dd, q, u, m, e, r⟩ := P
      have ok := scn_ok hs
      have dec : k = 1 → (sB dd).size = 0 ∧ q = 0 ∨ VN (sB dd) q u := fun hk => by
        rcases ok with ⟨_, h0 | h0⟩ | ⟨h0, _⟩ | h0 | ⟨h0, _⟩
        · exact .inl ⟨h0.1, h0.2.1⟩
        · exact .inr h0
        · exact absurd (h0.symm.trans hk) (by decide)
        · exact absurd (h0.symm.trans hk) (by decide)
        · exact absurd (h0.symm.trans hk) (by decide)
      have LI := fun W => light_any z (c := c) (k := k) (d := sB dd) (q := q) (u := u) (m := m) (e := e) (r := r) (fun hk => by
        rcases dec hk with ⟨h0, h1⟩ | h0
        · omega
        · exact ⟨h0.len, h0.lo, h0.hi⟩) W
      by_cases hk : k = 1
      · subst hk
        rcases dec rfl with ⟨h0, _⟩ | hd
        · have d0 : dd = [] := List.eq_nil_of_length_eq_zero h0
          subst d0
          refine prd_zero (A := (ofP g f T L ⟨c, 1, [], q, u, m, e, r⟩).1) hT hg LI (fun W b hb m lb => (PA W b hb m lb).mono ?_) SC
          rintro o w' ⟨v, rfl, e, b', ⟨p, p0, p1, m'⟩⟩
          exact ⟨v, p, 0, 0, 0, rfl, e, b', m', p1, rfl, rfl, rfl⟩
        · have ne : dd ≠ [] := fun y => absurd hd.pos (by rw [y]; decide)
          have fin : ∀ {o : Ending} {w' : World} {b X : Nat} {kk : Int}, (∃ v, o = .returned (.tuple #[.int .u64 (X : Int), v]) ∧ ErV w' kk cPrs (sB l) v ∧ Below w.heap.size w w' ∧ Prd (some b) w' M K (some ⟨c, 1, dd, q, u, m, e, r⟩)) →
              ∃ v p x1 x2 x3, o = .returned (.tuple #[.int .u64 (X : Int), v]) ∧ ErV w' kk cPrs (sB l) v ∧ Below w.heap.size w w' ∧ MS w' b 0 p x1 x2 x3 ∧ p ≤ 1024 ∧ ((x1 = 1 ∧ x2 = 0 ∧ x3 = 0) ∨ (x1 = 0 ∧ x2 = 1 ∧ x3 = 0) ∨ (x1 = 0 ∧ x2 = 0 ∧ x3 = 1 ∧ (if z = 32 then ltB 7 10 1 u ((sB dd).size : Int) q else ltB 15 22 1 u ((sB dd).size : Int) q) = false)) := by
            rintro o w' b X kk ⟨v, rfl, e, b', pr⟩
            have vr : Vrd (some b) w' ⟨c, 1, dd, q, u, m, _, r⟩ (Lgt M K ⟨c, 1, dd, q, u, m, _, r⟩) := pr
            unfold Vrd at vr
            rw [if_pos ⟨rfl, ne⟩] at vr
            obtain ⟨x1, x2, x3, ⟨p, p0, p1, m'⟩, su, y1, y2, y3, nl⟩ := vr
            refine ⟨v, p, x1, x2, x3, rfl, e, b', m', p1, ?_⟩
            rcases (show x1 = 1 ∨ x2 = 1 ∨ x3 = 1 by omega) with h | h | h
            · exact .inl (by omega)
            · exact .inr (.inl (by omega))
            · refine .inr (.inr ⟨by omega, by omega, h, ?_⟩)
              cases hb : (if z = 32 then ltB 7 10 1 u ((sB dd).size : Int) q else ltB 15 22 1 u ((sB dd).size : Int) q) with
              | false => rfl
              | true => exact absurd (nl (lt_lgt hx hd hb)) (by omega)
          cases ov : (ofP g f T L ⟨c, 1, dd, q, u, m, e, r⟩).2 with
          | false =>
            rw [ov] at PA
            exact prd_dec0 hT hg hd.pos LI (fun W b hb m lb => (PA W b hb m lb).mono fun o w' h => fin h) SC
          | true =>
            rw [ov] at PA
            exact prd_dec4 hT hg hd.pos LI (fun W b hb m lb => (PA W b hb m lb).mono fun o w' h => fin h) SC
      · have fin : ∀ {o : Ending} {w' : World} {b X : Nat} {kk : Int}, (∃ v, o = .returned (.tuple #[.int .u64 (X : Int), v]) ∧ ErV w' kk cPrs (sB l) v ∧ Below w.heap.size w w' ∧ Prd (some b) w' M K (some ⟨c, k, dd, q, u, m, e, r⟩)) →
            ∃ v p x1 x2 x3, o = .returned (.tuple #[.int .u64 (X : Int), v]) ∧ ErV w' kk cPrs (sB l) v ∧ Below w.heap.size w w' ∧ MS w' b 0 p x1 x2 x3 ∧ p ≤ 1024 ∧ (x1 = 0 ∧ x2 = 0 ∧ x3 = 0) := by
          rintro o w' b X kk ⟨v, rfl, e, b', pr⟩
          have vr : Vrd (some b) w' ⟨c, k, dd, q, u, m, _, r⟩ (Lgt M K ⟨c, k, dd, q, u, m, _, r⟩) := pr
          unfold Vrd at vr
          rw [if_neg (fun y => hk y.1)] at vr
          obtain ⟨p, p0, p1, m'⟩ := vr
          exact ⟨v, p, 0, 0, 0, rfl, e, b', m', p1, rfl, rfl, rfl⟩
        cases ov : (ofP g f T L ⟨c, k, dd, q, u, m, e, r⟩).2 with
        | false =>
          rw [ov] at PA
          exact prd_oth0 hT hg hk LI (fun W b hb m lb => (PA W b hb m lb).mono fun o w' h => fin h) SC
        | true =>
          rw [ov] at PA
          exact prd_oth4 hT hg hk LI (fun W b hb m lb => (PA W b hb m lb).mono fun o w' h => fin h) SC
end Go.Proofs.YtiminkommimgdaaGreatDoor
