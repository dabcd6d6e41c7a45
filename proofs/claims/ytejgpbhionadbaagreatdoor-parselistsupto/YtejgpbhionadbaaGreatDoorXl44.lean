/-
  Holds: UScYa UScL.
-/
import Derived.Test.YtejgpbhionadbaaGreatDoorChecked
import Derived.WalkKit
import Derived.Deep.DeepMust
import Derived.Lib.Strings
import Derived.Lib.BufferWrite
import Derived.Deep.OwnRows
import Derived.Deep.RegionHeld3
import Derived.Deep.QuietTactic
import Derived.BigQuiet
import Derived.Deep.AppendLies
import Derived.Lib.ConvBytes
import Derived.Test.YtejgpbhionadbaaGreatDoorShelf
import Derived.Deep.DeepCutAuto
import Derived.Laws.EntriesVeiled
import Derived.Test.YtejgpbhionadbaaGreatDoorXl40
import Derived.Test.YtejgpbhionadbaaGreatDoorXl42
import Derived.Test.YtejgpbhionadbaaGreatDoorXl43
set_option maxRecDepth 100000
set_option maxHeartbeats 4000000
namespace Go.Proofs.YtejgpbhionadbaaGreatDoor
open Go.RowKit
def aHD:Option (Pt × Nat) -> Value
 | none=>.tuple #[agP false 0 ⟨#[]⟩ 0 false 0 0 false,vI 0,vI 3]
 | some (p,n)=>.tuple #[spV p,vI (n:Int),vI 0]
theorem yA     {L : Nat} (hL : L ≠ 0) (u : List UInt8) : exn L u = if (sml (h0 u)).toNat = L then (if rch 10 false ((u.drop 1).drop (sgA (u.drop 1))) = 0 then none else some (dK   (u.drop 1), 1 + sgA (u.drop 1) + rch 10 false ((u.drop 1).drop (sgA (u.drop 1))))) else none := by
  cases u with
  | nil =>
    rw [if_neg (by show ¬ (sml 0).toNat = L; rw [show (sml 0).toNat = 0 by decide]; omega)]
    rfl
  | cons c t => rfl
theorem aI6     (r : List UInt8) (h : wdB jF   r = true) : wdB aU        r = false ∧ wdB iN   r = false := by
  cases r with
  | nil => cases h
  | cons c t =>
    have h' : ((sml c == 110) && wdB [97, 110] t) = true := h
    rw [Bool.and_eq_true] at h'
    have e : sml c = 110 := by simpa using h'.1
    constructor
    · show ((sml c == 105) && _) = false
      rw [e]; rfl
    · show ((sml c == 105) && _) = false
      rw [e]; rfl
theorem aK1    (r : List UInt8) : isX r = decide ((h0 r) = 48 ∧ (sml (h0 (r.drop 1))).toNat = 120) := by
  cases r with
  | nil => rfl
  | cons c t =>
    have e1 : (hdC (c :: t) = 48) ↔ c = 48 := ⟨fun h => UInt8.toNat_inj.1 h, fun h => by rw [h]; rfl⟩
    have e2 : (hdC t = 120 ∨ hdC t = 88) ↔ (sml (h0 t)).toNat = 120 := by
      cases t with
      | nil =>
        have a : (sml (h0 ([] : List UInt8))).toNat = 0 := by decide
        have b : hdC ([] : List UInt8) = 256 := rfl
        rw [a, b]
        constructor <;> intro q <;> omega
      | cons d u =>
        show (d.toNat = 120 ∨ d.toNat = 88) ↔ (sml d).toNat = 120
        have := sX      d
        constructor
        · intro q
          rcases q with q | q
          · rw [if_neg (by omega)] at this; omega
          · rw [if_pos (by omega)] at this; omega
        · intro q
          by_cases a : 65 ≤ (d.toNat : Int) ∧ (d.toNat : Int) ≤ 90
          · rw [if_pos a] at this; right; omega
          · rw [if_neg a] at this; left; omega
    unfold isX
    show decide (hdC (c :: t) = 48 ∧ (hdC t = 120 ∨ hdC t = 88)) = decide (c = 48 ∧ (sml (h0 t)).toNat = 120)
    by_cases a : c = 48 ∧ (sml (h0 t)).toNat = 120
    · rw [decide_eq_true a, decide_eq_true ⟨e1.2 a.1, e2.2 a.2⟩]
    · rw [decide_eq_false a, decide_eq_false (fun q => a ⟨e1.1 q.1, e2.1 q.2⟩)]
theorem aK4 {r:List UInt8}(h:mnt 16 true (r.drop 2)=none):aQ r=none:=by unfold aQ;rw [h];split <;> rfl
theorem aEn {r W P:List UInt8}{n:Nat}(h:mnt 16 true (r.drop 2)=some (W,P,n)) (h2:exn 112 (r.drop (2+n))=none):aQ r=none:=by
 unfold aQ;rw [h]
 show (if _ then (match exn 112 (r.drop (2+n)) with | none=>none | some (e,m)=>some (cV W P e,2+n+m)) else none)=none
 rw [h2];split <;> rfl
theorem aK5 {r W P:List UInt8}{n m:Nat}{e:Int}(hx:isX r=true) (h:mnt 16 true (r.drop 2)=some (W,P,n)) (h2:exn 112 (r.drop (2+n))=some (e,m)):aQ r=some (cV W P e,2+n+m):=by
 unfold aQ;rw [if_pos hx,h]
 show (match exn 112 (r.drop (2+n)) with | none=>none | some (e,m)=>some (cV W P e,2+n+m))=_
 rw [h2]
theorem aEm {r W P:List UInt8}{n:Nat}(h:mnt 10 false r=some (W,P,n)) (h2:exn 101 (r.drop n)=none):cB r=some (pB W P 0,n):=by rw [mC h,h2];rfl
theorem aK3 {r W P:List UInt8}{n m:Nat}{e:Int}(h:mnt 10 false r=some (W,P,n)) (h2:exn 101 (r.drop n)=some (e,m)):cB r=some (pB W P e,n+m):=by rw [mC h,h2];rfl
theorem iK {l:List UInt8}{p:Pt}{n:Nat}{g:Bool}{i k:Nat}(h:bZ (decide (0<sgA l)) (l.drop (sgA l))=some (p,n)) (hg:sgM l=g) (hi:sgA l=i) (hk:i+n=k):aHD (pfx l)=.tuple #[agP g p.kind (sB p.dd) p.dp p.dc (p.mant:Int) p.exp p.cut,vI (k:Int),vI 0]:=by
 rw [iI h,hg,hi,hk];rfl
theorem aHu {l:List UInt8}(h:bZ (decide (0<sgA l)) (l.drop (sgA l))=none):aHD (pfx l)=.tuple #[agP false 0 ⟨#[]⟩ 0 false 0 0 false,vI 0,vI 3]:=by
 rw [zR h];rfl
theorem aFF {c:UInt8}{n:Nat}(h:c.toNat ≠ n):((c.toNat:Int) == (n:Int))=false:=beq_eq_false_iff_ne.mpr fun y=>h (Int.ofNat_inj.1 y)
theorem aAk {l:List UInt8}(hl:l.length<=140737488351232) {k:Nat}(hk:k<=l.length) (L:Nat) (hL:L ≠ 0) (hs:(sml (h0 (l.drop k))).toNat=L) :
 (exn L (l.drop k)=none/\∃ e1:Int,∀ W,Cb 55 #[.string (sB l),vI ((k:Int)+1)] W (.tuple #[vI 0,vI e1,.bool false])) \/
 (∃ (X:Int) (m:Nat),exn L (l.drop k)=some (X,m)/\∀ W,Cb 55 #[.string (sB l),vI ((k:Int)+1)] W (.tuple #[vI X,vI ((k+m:Nat):Int),.bool true])):=by
 have e:=yA hL (l.drop k)
 rw [if_pos hs] at e
 have d1:(l.drop k).drop 1=l.drop (k+1):=List.drop_drop
 have d2:(l.drop (k+1)).drop (sgA (l.drop (k+1)))=l.drop (k+1+sgA (l.drop (k+1))):=List.drop_drop
 rw [d1,d2] at e
 by_cases z:rch 10 false (l.drop (k+1+sgA (l.drop (k+1))))=0
 . left
   rw [if_pos z] at e
   exact ⟨e,_,fun W=>aFb (sB l) hl (k+1) (by rw [aA];omega) z W⟩
 . right
   rw [if_neg z] at e
   refine ⟨_,_,e,fun W=>?_⟩
   have q:=aHs (sB l) hl (k+1) (by rw [aA];omega) z W
   have ee:k+(1+sgA (l.drop (k+1))+rch 10 false (l.drop (k+1+sgA (l.drop (k+1)))))=k+1+sgA (l.drop (k+1))+rch 10 false (l.drop (k+1+sgA (l.drop (k+1)))):=by omega
   rw [ee]
   exact q
theorem xA (l:List UInt8) {i:Nat}{r:List UInt8}(hr:r=l.drop i) (k:Nat):∀ W,Cs 51 #[.string (sB l),vI ((i+k:Nat):Int)] W (.int .u8 ((h0 (r.drop k)).toNat:Int)):=fun W=>by
 have:=lM (sB l) (i+k) W
 rw [bR,<- List.drop_drop,<- hr] at this
 exact this
theorem aGD      (l : List UInt8) (hl : l.length ≤ 140737488351232) {i : Nat} (i1 : i ≤ 1) {r : List UInt8} (hr : r = l.drop i) :
    ∃ (hW hP v2 : ByteArray) (eh x3 y3 X1 e1 v1 v3 v5 v6 : Int) (okh p3 ok1 v0 v4 v7 : Bool),
      (isX r = true → ∀ W, Calls Tryz.prog 54 #[.string (sB l), .int .i64 ((i : Int) + 2), .bool true] W fun e w' => e = .returned (.tuple #[.string hW, .string hP, .int .i64 eh, .bool okh]) ∧ Below W.heap.size W w') ∧ (isX r = true → okh = true → 0 ≤ eh ∧ eh ≤ 140737488351236) ∧ (isX r = true → okh = true → ∀ W, Calls Tryz.prog 51 #[.string (sB l), .int .i64 eh] W fun e w' => e = .returned (.int .u8 x3) ∧ w' = W) ∧ (∀ W, Calls Tryz.prog 53 #[.int .u8 x3] W fun e w' => e = .returned (.int .u8 y3) ∧ w' = W) ∧ (okh = false → p3 = false) ∧ (okh = true → (y3 == 112) = p3) ∧
      (isX r = true → okh = true → p3 = true → ∀ W, Calls Tryz.prog 55 #[.string (sB l), .int .i64 (eh + 1)] W fun e w' => e = .returned (.tuple #[.int .i64 X1, .int .i64 e1, .bool ok1]) ∧ Below W.heap.size W w') ∧
      (isX r = true → okh = true → p3 = true → ok1 = true → ∀ W, Calls Tryz.prog 56 #[.string hW, .string hP, .int .i64 X1] W fun e w' => e = .returned (.agg #[.bool v0, .int .i64 v1, .string v2, .int .i64 v3, .bool v4, .int .u64 v5, .int .i64 v6, .bool v7]) ∧ Below W.heap.size W w') ∧
      (isX r = true → okh = true → p3 = true → ok1 = true → ∃ p n, aQ   r = some (p, n) ∧ p.kind ≠ 1 ∧ (∀ g, agP g v1 v2 v3 v4 v5 v6 v7 = agP g p.kind (sB p.dd) p.dp p.dc (p.mant : Int) p.exp p.cut) ∧ e1 = ((i + n : Nat) : Int)) ∧
      ((isX r = true → okh = true → p3 = true → ok1 = false) → aQ   r = none) := by
  have S0 := fun W => dJ         0 W
  rcases Bool.eq_false_or_eq_true (isX r) with hx | hx
  rotate_left
  · have n : ∀ {P : Prop}, isX r = true → P := fun h => by rw [hx] at h; cases h
    exact ⟨⟨#[]⟩, ⟨#[]⟩, ⟨#[]⟩, 0, _, _, 0, 0, 0, 0, 0, 0, false, false, false, false, false, false, n, n, n, S0, fun _ => rfl, (by intro h; cases h), n, n, n, fun _ => yY       hx⟩
  have h2 := sL      hx
  have h3 : i + r.length = l.length := by rw [hr, List.length_drop] at h2 ⊢; omega
  have MH : ∀ W, Calls Tryz.prog 54 #[.string (sB l), .int .i64 ((i : Int) + 2), .bool true] W fun e w' => e = .returned (rmV (i + 2) (mnt 16 true (r.drop 2))) ∧ Below W.heap.size W w' := fun W => by
    have := uR        (sB l) hl (i + 2) (by rw [aA     ]; omega) true W
    rw [bR     , ← List.drop_drop, ← hr] at this
    exact this
  cases qm : mnt 16 true (r.drop 2) with
  | none =>
    rw [qm] at MH
    exact ⟨_, _, ⟨#[]⟩, _, _, _, 0, 0, 0, 0, 0, 0, false, false, false, false, false, false, fun _ => MH, (by intro _ h; cases h), (by intro _ h; cases h), S0, fun _ => rfl, (by intro h; cases h), (by intro _ h; cases h), (by intro _ h; cases h), (by intro _ h; cases h), fun _ => aK4    qm⟩
  | some x =>
    obtain ⟨W, P, n⟩ := x
    rw [qm] at MH
    have hm := fB      qm
    have hmm := jQ      qm
    rw [List.length_drop] at hm hmm
    have A3 := xA   l hr (2 + n)
    rw [show i + (2 + n) = i + 2 + n by omega] at A3
    have S3 := fun W' => dJ         (h0 (r.drop (2 + n))) W'
    have dr : l.drop (i + 2 + n) = r.drop (2 + n) := by rw [hr, List.drop_drop]; congr 1; omega
    by_cases y3 : (sml (h0 (r.drop (2 + n)))).toNat = 112
    · have y3t : (((sml (h0 (r.drop (2 + n)))).toNat : Int) == 112) = true := by rw [y3]; rfl
      rcases aAk      hl (k := i + 2 + n) (by omega) 112 (by omega) (by rw [dr]; exact y3) with ⟨qe, e1, EX⟩ | ⟨X, m, qe, EX⟩
      · rw [dr] at qe
        exact ⟨_, _, ⟨#[]⟩, _, _, _, 0, e1, 0, 0, 0, 0, true, true, false, false, false, false, fun _ => MH, fun _ _ => ⟨by omega, by omega⟩, fun _ _ => A3, S3, (by intro h; cases h), fun _ => y3t, fun _ _ _ => EX, (by intro _ _ _ h; cases h), (by intro _ _ _ h; cases h), fun _ => aEn    qm qe⟩
      · rw [dr] at qe
        have ep := gL      qe
        have HX := fun W' => aGF      W P (by omega) (oD      qm) X ep.2.2.1 ep.2.2.2 W'
        exact ⟨_, _, _, _, _, _, _, _, _, _, _, _, true, true, true, _, _, _, fun _ => MH, fun _ _ => ⟨by omega, by omega⟩, fun _ _ => A3, S3, (by intro h; cases h), fun _ => y3t, fun _ _ _ => EX, fun _ _ _ _ => HX, fun _ _ _ _ => ⟨_, _, aK5    hx qm qe, (by show (2 : Int) ≠ 1; decide), fun _ => rfl, by omega⟩, fun h => by have := h hx rfl rfl; cases this⟩
    · have y3f : (((sml (h0 (r.drop (2 + n)))).toNat : Int) == 112) = false := aFF    y3
      have qe : exn 112 (r.drop (2 + n)) = none := by rw [yA     (by omega), if_neg y3]
      exact ⟨_, _, ⟨#[]⟩, _, _, _, 0, 0, 0, 0, 0, 0, true, false, false, false, false, false, fun _ => MH, fun _ _ => ⟨by omega, by omega⟩, fun _ _ => A3, S3, fun _ => rfl, fun _ => y3f, (by intro _ _ h; cases h), (by intro _ _ h; cases h), (by intro _ _ h; cases h), fun _ => aEn    qm qe⟩
theorem xQ {l:List UInt8}(W P:List UInt8) (hl:l.length<=140737488351232) (hw:W.length+P.length<=l.length) (x:Int):∃ (d:ByteArray) (p:Int) (c:Bool),(∀ V,Cb 57 #[.string (sB W),.string (sB P),vI x] V (.agg #[.string d,vI p,.bool c]))/\(l.length<=1099511627776 -> d=sB (dcT W P)/\p=dcP W P x/\c=dcC W P):=by
 obtain ⟨d,p,c,he,hn⟩:=aDy W P x
 refine ⟨d,p,c,fun V=>?_,fun h=>hn ?_⟩
 . have:=aHq W P (by omega) x V
   rw [he] at this
   exact this
 . have a:=cW (plD W P)
   have b:=fC W P
   omega
theorem aGj      (l : List UInt8) (hl : l.length ≤ 140737488351232) {i : Nat} (il : i ≤ l.length) {r : List UInt8} (hr : r = l.drop i) :
    ∃ (dW dP dd : ByteArray) (ed x4 y4 X2 e2 n2 en dp : Int) (okd p4 ok2 dc : Bool),
      (∀ W, Calls Tryz.prog 54 #[.string (sB l), .int .i64 (i : Int), .bool false] W fun e w' => e = .returned (.tuple #[.string dW, .string dP, .int .i64 ed, .bool okd]) ∧ Below W.heap.size W w') ∧ (okd = true → 0 ≤ ed ∧ ed ≤ 140737488351236) ∧ (okd = true → ∀ W, Calls Tryz.prog 51 #[.string (sB l), .int .i64 ed] W fun e w' => e = .returned (.int .u8 x4) ∧ w' = W) ∧ (∀ W, Calls Tryz.prog 53 #[.int .u8 x4] W fun e w' => e = .returned (.int .u8 y4) ∧ w' = W) ∧ (y4 == 101) = p4 ∧
      (okd = true → p4 = true → ∀ W, Calls Tryz.prog 55 #[.string (sB l), .int .i64 (ed + 1)] W fun e w' => e = .returned (.tuple #[.int .i64 X2, .int .i64 e2, .bool ok2]) ∧ Below W.heap.size W w') ∧
      ((p4 = false ∧ n2 = 0 ∧ en = ed) ∨ (p4 = true ∧ ok2 = false ∧ n2 = 0 ∧ en = ed) ∨ (p4 = true ∧ ok2 = true ∧ n2 = X2 ∧ en = e2)) ∧
      (okd = true → ∀ W, Calls Tryz.prog 57 #[.string dW, .string dP, .int .i64 n2] W fun e w' => e = .returned (.agg #[.string dd, .int .i64 dp, .bool dc]) ∧ Below W.heap.size W w') ∧
      (okd = false → cB   r = none) ∧ (okd = true → ∃ p n, cB   r = some (p, n) ∧ (p.kind = 1 ∧ p.mant = 0 ∧ p.exp = 0 ∧ p.cut = false) ∧ (l.length ≤ 1099511627776 → dd = sB p.dd ∧ dp = p.dp ∧ dc = p.dc) ∧ en = ((i + n : Nat) : Int)) := by
  have h3 : i + r.length = l.length := by rw [hr, List.length_drop]; omega
  have MD : ∀ W, Calls Tryz.prog 54 #[.string (sB l), .int .i64 (i : Int), .bool false] W fun e w' => e = .returned (rmV i (mnt 10 false r)) ∧ Below W.heap.size W w' := fun W => by
    have := uR        (sB l) hl i (by rw [aA     ]; omega) false W
    rw [bR     , ← hr] at this
    exact this
  cases qm : mnt 10 false r with
  | none =>
    rw [qm] at MD
    have S0 := fun W => dJ         0 W
    exact ⟨_, _, ⟨#[]⟩, _, _, _, 0, 0, 0, _, 0, false, false, false, false, MD, (by intro h; cases h), (by intro h; cases h), S0, (by decide), (by intro h; cases h), .inl ⟨rfl, rfl, rfl⟩, (by intro h; cases h), fun _ => uB        qm, (by intro h; cases h)⟩
  | some x =>
    obtain ⟨W, P, n⟩ := x
    rw [qm] at MD
    have hm := fB      qm
    have hmm := jQ      qm
    have A4 := xA   l hr n
    have S4 := fun W' => dJ         (h0 (r.drop n)) W'
    have dr : l.drop (i + n) = r.drop n := by rw [hr, List.drop_drop]
    by_cases y4 : (sml (h0 (r.drop n))).toNat = 101
    · have y4t : (((sml (h0 (r.drop n))).toNat : Int) == 101) = true := by rw [y4]; rfl
      rcases aAk      hl (k := i + n) (by omega) 101 (by omega) (by rw [dr]; exact y4) with ⟨qe, e1, EX⟩ | ⟨X, m, qe, EX⟩
      · rw [dr] at qe
        obtain ⟨d0, p0, c0, D0, n0⟩ := xQ     (l := l) W P hl (by omega) 0
        exact ⟨_, _, _, _, _, _, _, e1, 0, _, _, true, true, false, _, MD, fun _ => ⟨by omega, by omega⟩, fun _ => A4, S4, y4t, fun _ _ => EX, .inr (.inl ⟨rfl, rfl, rfl, rfl⟩), fun _ => D0, (by intro h; cases h), fun _ => ⟨_, _, aEm    qm qe, ⟨rfl, rfl, rfl, rfl⟩, n0, rfl⟩⟩
      · rw [dr] at qe
        obtain ⟨d0, p0, c0, D0, n0⟩ := xQ     (l := l) W P hl (by omega) X
        exact ⟨_, _, _, _, _, _, _, _, _, _, _, true, true, true, _, MD, fun _ => ⟨by omega, by omega⟩, fun _ => A4, S4, y4t, fun _ _ => EX, .inr (.inr ⟨rfl, rfl, rfl, rfl⟩), fun _ => D0, (by intro h; cases h), fun _ => ⟨_, _, aK3    qm qe, ⟨rfl, rfl, rfl, rfl⟩, n0, by omega⟩⟩
    · have y4f : (((sml (h0 (r.drop n))).toNat : Int) == 101) = false := aFF    y4
      have qe : exn 101 (r.drop n) = none := by rw [yA     (by omega), if_neg y4]
      obtain ⟨d0, p0, c0, D0, n0⟩ := xQ     (l := l) W P hl (by omega) 0
      exact ⟨_, _, _, _, _, _, 0, 0, 0, _, _, true, false, false, _, MD, fun _ => ⟨by omega, by omega⟩, fun _ => A4, S4, y4f, (by intro _ h; cases h), .inl ⟨rfl, rfl, rfl⟩, fun _ => D0, (by intro h; cases h), fun _ => ⟨_, _, aEm    qm qe, ⟨rfl, rfl, rfl, rfl⟩, n0, rfl⟩⟩
theorem aA3 (l:List UInt8) (hl4:l.length<=1099511627776) (w:World):Cb 29 #[.string (sB l)] w (aHD (pfx l)):=by
 have hl:l.length<=140737488351232:=by omega
 obtain ⟨g,hg⟩:∃ g,sgM l=g:=⟨_,rfl⟩
 obtain ⟨i,hi⟩:∃ i,sgA l=i:=⟨_,rfl⟩
 have il:i<=l.length:=by have:=mW l;omega
 have i1:i<=1:=by have:=gU l;omega
 obtain ⟨r,hr⟩:∃ r,r=l.drop i:=⟨_,rfl⟩
 have hk0:bZ (decide (0<sgA l)) (l.drop (sgA l))=bZ (decide (0<i)) r:=by rw [hi,hr]
 have sg:((((h0 l).toNat:Int) == 45)=g)/\((g=true/\i=1) \/ (g=false/\(((h0 l).toNat:Int) == 43)=true/\i=1) \/ (g=false/\(((h0 l).toNat:Int) == 43)=false/\i=0)):=by
  by_cases a:h0 l=45
  . obtain ⟨q1,q2⟩:=sH a
    rw [a]
    exact ⟨by rw [<- hg,q1];rfl,.inl ⟨by rw [<- hg,q1],by omega⟩⟩
  . have ea:(((h0 l).toNat:Int) == 45)=false:=dU a
    by_cases b:h0 l=43
    . obtain ⟨q1,q2⟩:=sG b
      exact ⟨by rw [ea,<- hg,q1],.inr (.inl ⟨by rw [<- hg,q1],by rw [b];rfl,by omega⟩)⟩
    . obtain ⟨q1,q2⟩:=yL a b
      exact ⟨by rw [ea,<- hg,q1],.inr (.inr ⟨by rw [<- hg,q1],dU b,by omega⟩)⟩
 have A0:=xA l (i:=0) (r:=l) rfl 0
 have AT1:=xA l hr 0
 have AT2:=xA l hr 1
 have WD:=fun (t:ByteArray) (ht:t.size<=8) (h0':0<t.size) (j:Nat) (hj:j<=1) W=>aFw (sB l) t j hl ht h0' hj W
 have WIN:=WD ⟨#[105,110,102,105,110,105,116,121]⟩ (by decide) (by decide) i i1
 have WIF:=WD ⟨#[105,110,102]⟩ (by decide) (by decide) i i1
 rw [bR,<- hr] at WIN WIF
 have WNA:i=0 -> ∀ W,Cb 52 #[.string (sB l),vI 0,.string ⟨#[110,97,110]⟩] W (.bool (decide (i=0) && wdB jF r)):=fun z W=>by
  have:=WD ⟨#[110,97,110]⟩ (by decide) (by decide) 0 (by decide) W
  subst z
  rw [bR,<- hr] at this
  exact this
 obtain ⟨hW,hP,v2,eh,x3,y3,X1,e1,v1,v3,v5,v6,okh,p3,ok1,v0,v4,v7,MH,heh,AT3,SM3,p3a,p3b,EX1,HX,KH,NH⟩:=aGD l hl i1 hr
 obtain ⟨dW,dP,dd,ed,x4,y4,X2,e2,n2,en,dp,okd,p4,ok2,dc,MD,hed,AT4,SM4,hp4,EX2,hn,DE,ND,KD⟩:=aGj l hl il hr
 have hx':=aK1 r
 have knan:(decide (i=0) && wdB jF r)=true -> bK (decide (0<i)) r=some ({ kind:=4 },3)/\i=0:=fun h=>by
  rw [Bool.and_eq_true] at h
  have z:=of_decide_eq_true h.1
  refine ⟨?_,z⟩
  unfold bK
  rw [if_pos ⟨by rw [z];rfl,h.2⟩]
 have kno:(decide (i=0) && wdB jF r)=false -> bK (decide (0<i)) r=none:=fun h=>by
  unfold bK
  rw [if_neg]
  rintro ⟨a,b⟩
  have z:i=0:=by have:=of_decide_eq_false a;omega
  rw [b,z] at h
  cases h
 refine aLB (sB l) w (hneg:=sg.1) (hpl:=rfl) (hi:=sg.2) (A0:=A0) (nn:=decide (i=0) && wdB jF r) (hnn:=fun z=>by rw [z];rfl) (WNA:=WNA) (WIN:=WIN) (WIF:=WIF) (AT1:=AT1) (hb1:=rfl) (AT2:=AT2) (SM2:=fun W=>dJ _ W) (hx:=isX r) (hx1:=fun h=>?_) (hx2:=fun h=>?_) (MH:=MH) (heh:=heh) (AT3:=AT3) (SM3:=SM3) (p3a:=p3a) (p3b:=p3b) (EX1:=EX1) (HX:=HX) (MD:=MD) (hed:=hed) (AT4:=AT4) (SM4:=SM4) (hp4:=hp4) (EX2:=EX2) (hn:=hn) (DE:=DE) (L1:=fun h=>?_) (L2:=fun h h2=>?_) (L3:=fun h h2 h4=>?_) (L4:=fun h h2 h4 a b c d=>?_) (L5:=fun h h2 h4 nx d=>?_) (L6:=fun h h2 h4 nx d=>?_)
 . rw [hx']
   exact decide_eq_false fun z=>by have q:=z.1;rw [List.drop_zero,q] at h;cases h
 . have q:h0 r=48:=by
    rw [List.drop_zero,beq_iff_eq] at h
    exact UInt8.toNat_inj.1 (Int.ofNat_inj.1 h)
   rw [hx',Bool.eq_iff_iff,beq_iff_eq,decide_eq_true_iff]
   exact ⟨fun z=>⟨q,by omega⟩,fun z=>by rw [z.2];rfl⟩
 . obtain ⟨k1,z⟩:=knan h
   have k0:=aI6 r (by rw [Bool.and_eq_true] at h;exact h.2)
   have g0:g=false:=by rcases sg.2 with q | q | q <;> first | omega | exact q.1
   rw [iK (hk0.trans (yV (mD k0.1 k0.2) k1)) hg hi (k:=3) (by omega),g0];rfl
 . rw [iK (hk0.trans (qL (aEo h2))) hg hi rfl];rfl
 . rw [iK (hk0.trans (qL (aEp h2 h4))) hg hi rfl];rfl
 . obtain ⟨p,n,kp,_,ag,rfl⟩:=KH a b c d
   rw [iK (hk0.trans (yW (mD h2 h4) (kno h) kp)) hg hi rfl,ag]
 . rw [aHu (hk0.trans (aEl (mD h2 h4) (kno h) (NH nx) (ND d)))]
 . obtain ⟨p,n,kp,⟨k1,k2,k3,k4⟩,ag,rfl⟩:=KD d
   obtain ⟨rfl,rfl,rfl⟩:=ag hl4
   rw [iK (hk0.trans (yX (mD h2 h4) (kno h) (NH nx) kp)) hg hi rfl,k1,k2,k3,k4];rfl
def rsV:Option Pt -> Value
 | none=>.tuple #[.agg #[.bool false,vI 0,.string ⟨#[]⟩,vI 0,.bool false,vU 0,vI 0,.bool false],vI 3]
 | some p=>.tuple #[spV p,vI 0]
theorem aFi       (l : List UInt8) (hl : l.length ≤ 1099511627776) (w : World) : Calls Tryz.prog 12 #[.string (sB l)] w fun e w' => e = .returned (rsV (scn l)) ∧ Below w.heap.size w w' := by
  have PX := fun W => aA3         l hl W
  have hz : (sB l).size = l.length := rfl
  cases q : pfx l with
  | none =>
    rw [aAu      q]
    have PX2 : ∀ W, Calls Tryz.prog 29 #[.string (sB l)] W fun e w' => e = .returned (.tuple #[.agg #[.bool false, .int .i64 0, .string ⟨#[]⟩, .int .i64 0, .bool false, .int .u64 0, .int .i64 0, .bool false], .int .i64 0, .int .i64 3]) ∧ Below W.heap.size W w' := fun W => by have := PX W; rw [q] at this; exact this
    clear PX q hl hz
    generalize sB l = s at *
    show Calls _ _ _ _ fun e w' => e = .returned (.tuple #[.agg #[.bool false, .int .i64 0, .string ⟨#[]⟩, .int .i64 0, .bool false, .int .u64 0, .int .i64 0, .bool false], .int .i64 3]) ∧ _
    go_enter Tryz.func12, Tryz.ntmps12
    go_wp2_with fail
    refine (PX2 _).mono ?_
    rintro o w1 ⟨rfl, b1⟩
    have HS1 : Hid (SW w w1) := SW.start b1
    clear b1
    obtain ⟨_, x1, rr, fr⟩ := HS1.out
    have r0 := rr 0
    have r1 := rr 1
    have r2 := rr 2
    have r3 := rr 3
    have r4 := rr 4
    have r5 := rr 5
    have r6 := rr 6
    have r7 := rr 7
    simp only [aC   ] at r0 r1 r2 r3 r4 r5 r6 r7
    clear rr
    go_wp2
    refine bodyPost_ret (v := .tuple #[.agg #[.bool false, .int .i64 0, .string ⟨#[]⟩, .int .i64 0, .bool false, .int .u64 0, .int .i64 0, .bool false], .int .i64 3]) (by simp [results, Tryz.results12, go_sem, *]) rfl ⟨rfl, ?_⟩
    refine Below.alloc ?_ (by simp; omega) _
    iterate 8 (refine Below.setCell ?_ cC      _)
    exact HS1.out.bel
  | some x =>
    obtain ⟨p, n⟩ := x
    rw [aAv      q]
    have hpn := aBB     q
    have PX2 : ∀ W, Calls Tryz.prog 29 #[.string (sB l)] W fun e w' => e = .returned (.tuple #[spV p, .int .i64 (n : Int), .int .i64 0]) ∧ Below W.heap.size W w' := fun W => by have := PX W; rw [q] at this; exact this
    unfold spV at PX2
    by_cases z : n = l.length
    · rw [if_pos z]
      show Calls _ _ _ _ fun e w' => e = .returned (.tuple #[.agg #[.bool p.neg, .int .i64 p.kind, .string (sB p.dd), .int .i64 p.dp, .bool p.dc, .int .u64 (p.mant : Int), .int .i64 p.exp, .bool p.cut], .int .i64 0]) ∧ _
      have n0 : ((n : Int) != ((sB l).size : Int)) = false := by rw [hz, z]; simp
      clear q PX hl hz z hpn
      generalize sB l = s at *
      generalize p.kind = v1 at *
      generalize sB p.dd = v2 at *
      generalize p.dp = v3 at *
      generalize p.dc = v4 at *
      generalize (p.mant : Int) = v5 at *
      generalize p.exp = v6 at *
      generalize p.cut = v7 at *
      generalize p.neg = v0 at *
      go_enter Tryz.func12, Tryz.ntmps12
      go_wp2_with fail
      refine (PX2 _).mono ?_
      rintro o w1 ⟨rfl, b1⟩
      have HS1 : Hid (SW w w1) := SW.start b1
      clear b1
      obtain ⟨_, x1, rr, fr⟩ := HS1.out
      have r0 := rr 0
      have r1 := rr 1
      have r2 := rr 2
      have r3 := rr 3
      have r4 := rr 4
      have r5 := rr 5
      have r6 := rr 6
      have r7 := rr 7
      simp only [aC   ] at r0 r1 r2 r3 r4 r5 r6 r7
      clear rr
      go_wp2
      refine bodyPost_ret (v := .tuple #[.agg #[.bool v0, .int .i64 v1, .string v2, .int .i64 v3, .bool v4, .int .u64 v5, .int .i64 v6, .bool v7], .int .i64 0]) (by simp [results, Tryz.results12, go_sem, *]) rfl ⟨rfl, ?_⟩
      refine Below.alloc ?_ (by simp; omega) _
      iterate 8 (refine Below.setCell ?_ cC      _)
      exact HS1.out.bel
    · rw [if_neg z]
      show Calls _ _ _ _ fun e w' => e = .returned (.tuple #[.agg #[.bool false, .int .i64 0, .string ⟨#[]⟩, .int .i64 0, .bool false, .int .u64 0, .int .i64 0, .bool false], .int .i64 3]) ∧ _
      have n0 : ((n : Int) != ((sB l).size : Int)) = true := bne_iff_ne.mpr (by omega)
      clear q PX hl hz z hpn
      generalize sB l = s at *
      generalize p.kind = v1 at *
      generalize sB p.dd = v2 at *
      generalize p.dp = v3 at *
      generalize p.dc = v4 at *
      generalize (p.mant : Int) = v5 at *
      generalize p.exp = v6 at *
      generalize p.cut = v7 at *
      generalize p.neg = v0 at *
      go_enter Tryz.func12, Tryz.ntmps12
      go_wp2_with fail
      refine (PX2 _).mono ?_
      rintro o w1 ⟨rfl, b1⟩
      have HS1 : Hid (SW w w1) := SW.start b1
      clear b1
      obtain ⟨_, x1, rr, fr⟩ := HS1.out
      have r0 := rr 0
      have r1 := rr 1
      have r2 := rr 2
      have r3 := rr 3
      have r4 := rr 4
      have r5 := rr 5
      have r6 := rr 6
      have r7 := rr 7
      simp only [aC   ] at r0 r1 r2 r3 r4 r5 r6 r7
      clear rr
      go_wp2
      refine bodyPost_ret (v := .tuple #[.agg #[.bool false, .int .i64 0, .string ⟨#[]⟩, .int .i64 0, .bool false, .int .u64 0, .int .i64 0, .bool false], .int .i64 3]) (by simp [results, Tryz.results12, go_sem, *]) rfl ⟨rfl, ?_⟩
      refine Below.alloc ?_ (by simp; omega) _
      iterate 8 (refine Below.setCell ?_ cC      _)
      exact HS1.out.bel
end Go.Proofs.YtejgpbhionadbaaGreatDoor
