/-
  Holds: SoWd.
-/
import Derived.Test.YtblkokjkmbpejaaGreatDoorRows
import Derived.Laws.Externs
import Derived.WalkKit
import Derived.WalkSpells
import Derived.WalkLawsBesides
import Derived.Lib.Mul64
import Derived.Stop.Asserts
import Derived.RowKitTokens
import Derived.Lib.Strings
import Derived.Lib.BufferWrite
import Derived.Deep.OwnRows
import Derived.Deep.RegionHeld3
import Derived.BigQuiet
import Derived.Lib.ConvBytes
import Derived.Laws.CopyOwn
import Derived.Lib.TrailingZeros
import Derived.Lib.ItoaNum
import Derived.Deep.LoopGhost
import Derived.Deep.AppendLies
import Derived.Deep.DeepCutAuto
import Derived.Test.YtblkokjkmbpejaaGreatDoorShelf
import Derived.Test.YtblkokjkmbpejaaGreatDoorKf37
import Derived.Test.YtblkokjkmbpejaaGreatDoorKf40
set_option maxRecDepth 100000
set_option maxHeartbeats 4000000
namespace Go.Proofs.YtblkokjkmbpejaaGreatDoor
open Go.RowKit
theorem wW:pw2 53 * pw5 1074<pwT 799:=by decide +kernel
theorem wT:pw2 53 * pw2 971<pwT 799:=by decide +kernel
theorem nQ {u:ByteArray}{o:Int}{X W j:Nat}(D:Dx u o X) (u0:0<u.size) (e:X=W * pwT j) (hW:W<pwT 799):u.size<=799:=by
 have vn:=D.vn u0
 have nf:=dF vn
 have lo:=D.lo
 have vl:=D.vl
 rw [e] at vl
 obtain ⟨i,hi⟩:∃ i,i=(o+(R0:Int) - (u.size:Int)).toNat:=⟨_,rfl⟩
 rw [<- hi] at vl
 obtain ⟨m,hm⟩:∃ m,u.size=m+1:=⟨u.size - 1,by omega⟩
 have low:=eU vn.dg nf.first m
 rw [<- hm] at low
 have last:=fP vn.dg u0 nf.last
 have pj:∀ n,0<pwT n:=fun n=>Nat.pow_pos (by decide)
 have vl':pv u u.size * pwT i=W * pwT j:=vl
 rcases Nat.lt_or_ge i j with c | c
 . exfalso
   rw [show j=(j - i - 1)+1+i by omega,fQ,<- Nat.mul_assoc] at vl'
   have q:=Nat.eq_of_mul_eq_mul_right (pj i) vl'
   apply last
   rw [q,fQ,<- Nat.mul_assoc,show pwT 1=10 from rfl,Nat.mul_mod_left]
 . rw [show i=(i - j)+j by omega,fQ,<- Nat.mul_assoc] at vl'
   have q:=Nat.eq_of_mul_eq_mul_right (pj j) vl'
   have le:pv u u.size<=W:=by
    rw [<- q]
    exact Nat.le_mul_of_pos_right _ (pj _)
   have low':pwT m<=pv u u.size:=low
   have:=kV (Nat.lt_of_le_of_lt low' (Nat.lt_of_le_of_lt le hW))
   omega
theorem Fl.short {z:Int}{f T:Nat}{L:Int}{S I b:Nat}{u:ByteArray}{o:Int}{s:ByteArray}{p:Int}{t:ByteArray}{q:Int}{A:Nat}{d1 d2:Nat -> Dp}(h:Fl z f T L S I b u o s p t q A d1 d2):u.size<=799:=by
 have fs:=h.fn.sf.fs.1
 have x:=bR fs h.fn.m
 have m:mt f (mg S b)<=pw2 53:=Nat.le_of_lt (dS fs (mg S b))
 have g:=h.g
 unfold vlF at g
 rcases Int.lt_or_le (xp f L (mg S b)) 0 with c | c
 . obtain ⟨k,hk⟩:∃ k:Nat,xp f L (mg S b) = -(k:Int):=⟨(-(xp f L (mg S b))).toNat,by omega⟩
   rw [hk] at g x
   exact nQ g h.pos (vY (by unfold R0;omega)) (Nat.lt_of_le_of_lt (Nat.mul_le_mul m (gH (show k<=1074 by omega))) wW)
 . obtain ⟨k,hk⟩:∃ k:Nat,xp f L (mg S b)=(k:Int):=⟨(xp f L (mg S b)).toNat,by omega⟩
   rw [hk] at g x
   exact nQ g h.pos nW (Nat.lt_of_le_of_lt (Nat.mul_le_mul m (gG (show k<=971 by omega))) wT)
theorem xU {X H g k S:Nat}(e1:X=2 * k * g) (e2:H=X+g) (g0:0<g) (hi:10 * S<=H) (tie:2 * X=19 * S):k<=9:=by
 apply Nat.le_of_not_lt
 intro c
 have:10 * g<=k * g:=Nat.mul_le_mul_right _ c
 rw [Nat.mul_assoc] at e1
 omega
theorem aAl {k a b:Nat}(h:19 ∣ 2 * (k * 2 ^ a * 5 ^ b)):19 ∣ k:=by
 have c2:Nat.Coprime 19 2:=by decide
 have c5:Nat.Coprime 19 5:=by decide
 rw [Nat.mul_comm 2] at h
 have a1:=Nat.Coprime.dvd_of_dvd_mul_right c2 h
 have a2:=Nat.Coprime.dvd_of_dvd_mul_right (Nat.Coprime.pow_right b c5) a1
 exact Nat.Coprime.dvd_of_dvd_mul_right (Nat.Coprime.pow_right a c2) a2
theorem aCw (f:Nat) (L:Int) (m:Nat):∃ a b,vlF f L m=mt f m * 2 ^ a * 5 ^ b:=⟨(xp f L m+(R0:Int)).toNat,R0,by unfold vlF fv;rfl⟩
theorem aDa {f T:Nat}{L:Int}(h:Fs f T L) {m S:Nat}(hm:m<T * 2 ^ f) (m0:m ≠ 0) (hi:10 * S<=hiF f L m) (tie:2 * vlF f L m=19 * S):False:=by
 have small:=xU (aA3 h hm) (nY h hm) (kF f L m) hi tie
 have mp:=fK (f:=f) m0
 obtain ⟨a,b,e⟩:=aCw f L m
 have dv:19 ∣ mt f m:=aAl (a:=a) (b:=b) (by rw [<- e];exact ⟨S,tie⟩)
 have:=Nat.le_of_dvd mp dv
 omega
theorem kT         {c : Bool} {lo hi X S Z : Nat} (h : cS    c lo hi X S = some Z) : (Z = rnU X S ∧ aY   c lo hi (rnU X S) = true) ∨ (aY   c lo hi (rnU X S) = false ∧ Z = upU X S ∧ aY   c lo hi (upU X S) = true) := by
  unfold cS    at h
  cases a : aY   c lo hi (rnU X S) with
  | true =>
    rw [a, if_pos rfl] at h
    exact Or.inl ⟨(Option.some.inj h).symm, rfl⟩
  | false =>
    rw [a, if_neg Bool.false_ne_true] at h
    cases b : aY   c lo hi (upU X S) with
    | true =>
      rw [b, if_pos rfl] at h
      exact Or.inr ⟨rfl, (Option.some.inj h).symm, rfl⟩
    | false =>
      rw [b, if_neg Bool.false_ne_true] at h
      cases h
theorem tS {c:Bool}{lo hi X S Z:Nat}(S0:0<S) (h:cS c lo hi X S=some Z) (lt:Z<X):Z=dnU X S/\rnB X S=false/\0<X % S:=by
 have u:=gP (X:=X) S0
 have e:=@fI X S
 rcases kT h with ⟨a,_⟩ | ⟨_,a,_⟩
 . unfold rnU at a
   cases r:rnB X S with
   | true=>rw [r,if_pos rfl] at a;omega
   | false=>rw [r,if_neg Bool.false_ne_true] at a;exact ⟨a,rfl,by omega⟩
 . omega
theorem tR         {c : Bool} {lo hi X S Z : Nat} (S0 : 0 < S) (h : cS    c lo hi X S = some Z) (lt : X < Z) : Z = upU X S ∧ aY   c lo hi (upU X S) = true ∧ 0 < X % S ∧ (rnB X S = true ∨ aY   c lo hi (dnU X S) = false) := by
  have d := sY    X S
  have z : 0 < X % S ∨ X % S = 0 := by omega
  rcases kT         h with ⟨a, a2⟩ | ⟨a, b, b2⟩
  · unfold rnU at a a2
    cases r : rnB X S with
    | true =>
      rw [r, if_pos rfl] at a a2
      refine ⟨a, a2, ?_, Or.inl rfl⟩
      rcases z with z | z
      · exact z
      · rw [(jE      S0 z).1] at a; omega
    | false => rw [r, if_neg Bool.false_ne_true] at a; omega
  · refine ⟨b, b2, ?_, ?_⟩
    · rcases z with z | z
      · exact z
      · rw [(jE      S0 z).1] at b; omega
    · unfold rnU at a
      cases r : rnB X S with
      | true => exact Or.inl rfl
      | false => rw [r, if_neg Bool.false_ne_true] at a; exact Or.inr a
theorem nZ {s:ByteArray}{n:Nat}(h:s.size=n) (h0:0<n):pv s s.size % 2=(dgt s (n - 1) - 48) % 2:=by
 obtain ⟨m,rfl⟩:∃ m,n=m+1:=⟨n - 1,by omega⟩
 rw [h]
 show (10 * pv s m+(dgt s m - 48)) % 2=_
 rw [Nat.add_sub_cancel]
 omega
theorem yJ {X S:Nat}(S0:0<S) (z:0<X % S):aG ((2 * X:Nat):Int) ((dnU X S+upU X S:Nat):Int)=aG ((2 * (X % S):Nat):Int) (S:Int):=by
 rw [jD S0 z]
 have e:=@fI X S
 unfold aG
 split <;> split <;> (try split) <;> (try split) <;> omega
theorem Fl.beside {z : Int} {f T : Nat} {L : Int} {S I b : Nat} {u : ByteArray} {o : Int} {s : ByteArray} {p : Int} {t : ByteArray} {q : Int} {A : Nat} {d1 d2 : Nat → Dp} (h : Fl z f T L S I b u o s p t q A d1 d2) {c : Bool} {N : Nat} (n0 : 1 ≤ N) (n1 : N ≤ 17) {d : Dp} (hd : fD c s p t q u d1 d2 N = some d) (sz : d.1.size = N) :
    ∃ Z, Dx d.1 d.2 Z ∧ (Z = vlF f L (mg S b) ∨ ∃ (up : Bool) (e : Dp) (Y : Nat), Dx e.1 e.2 Y ∧ (e = d1 N ∨ e = d2 N) ∧ (d = d1 N ∨ d = d2 N) ∧ Z + Y = dnU (vlF f L (mg S b)) (10 ^ (A - N)) + upU (vlF f L (mg S b)) (10 ^ (A - N)) ∧ 0 < vlF f L (mg S b) % 10 ^ (A - N) ∧
      (∀ W, Calls Tryz.prog 24 #[dcV d.1 d.2 false, .int .i64 (N : Int), .bool up] W fun x w' => x = .returned (dcV e.1 e.2 false) ∧ Below W.heap.size W w') ∧
      ((up = true ∧ Z < vlF f L (mg S b) ∧ (2 * (vlF f L (mg S b) % 10 ^ (A - N)) < 10 ^ (A - N) ∨ (2 * (vlF f L (mg S b) % 10 ^ (A - N)) = 10 ^ (A - N) ∧ (dgt d.1 (N - 1) - 48) % 2 = 0))) ∨
       (up = false ∧ vlF f L (mg S b) < Z ∧ (hdB c s p t q e = true → 10 ^ (A - N) < 2 * (vlF f L (mg S b) % 10 ^ (A - N)) ∨ (2 * (vlF f L (mg S b) % 10 ^ (A - N)) = 10 ^ (A - N) ∧ (dgt d.1 (N - 1) - 48) % 2 = 0))))) := by
  rcases h.pick c n0 n1 with ⟨a, _⟩ | ⟨d', Z, a, pk, D, hb, w⟩
  · rw [a] at hd; cases hd
  rw [a] at hd
  obtain rfl := Option.some.inj hd
  refine ⟨Z, D, ?_⟩
  obtain ⟨c1, du, c3, c4⟩ := h.c N n0 n1
  obtain ⟨l1, l2, l3⟩ := h.few n0 n1 w
  obtain ⟨b1, b2, b3⟩ := h.near_pt
  have hA := h.hA
  have low := (h.g.some h.pos).2.1
  rw [hA, show ((A : Int) - 1).toNat = A - 1 by omega] at low
  have S0 := cU      (A - N)
  have d0 : 0 < d'.1.size := by omega
  have lo := D.lo
  have vl := D.vl
  have dmod := @fI     (vlF f L (mg S b)) (10 ^ (A - N))
  have uge := gP    (X := vlF f L (mg S b)) S0
  have c1' : ((d1 N).1, o) = d1 N := by rw [← c1]
  have c4' : ((d2 N).1, (d2 N).2) = d2 N := rfl
  rcases Nat.lt_trichotomy Z (vlF f L (mg S b)) with lt | eq | gt
  · right
    obtain ⟨e1, e2, e3⟩ := tS         S0 pk lt
    have hu := jD    S0 e3
    have ed : d' = d1 N := by
      rw [e1] at D
      obtain ⟨x1, x2⟩ := Dx.uniq D c3
      rw [← c1', ← x1, ← x2]
    have ep : d'.2 = o := by rw [ed]; exact c1
    obtain ⟨s2, p2, E, M⟩ := tN         D d0 (by omega) (A := A) (by omega) (by omega)
    rw [sz] at E M
    have ev : Z + 10 ^ (A - N) = upU (vlF f L (mg S b)) (10 ^ (A - N)) := by rw [hu, e1]
    rw [ev] at E
    obtain ⟨x1, x2⟩ := Dx.uniq E c4
    refine ⟨true, (s2, p2), _, E, Or.inr (by rw [x1, x2]), w, by rw [e1], e3, M, Or.inl ⟨rfl, lt, ?_⟩⟩
    have epv : pv d'.1 d'.1.size = vlF f L (mg S b) / 10 ^ (A - N) := by
      have q := vl
      rw [show (d'.2 + (R0 : Int) - (d'.1.size : Int)).toNat = A - N by omega, e1] at q
      exact Nat.eq_of_mul_eq_mul_right S0 q
    unfold rnB at e2
    have e2' := of_decide_eq_false e2
    have par := nZ       sz (by omega)
    rw [epv] at par
    rcases Nat.lt_trichotomy (2 * (vlF f L (mg S b) % 10 ^ (A - N))) (10 ^ (A - N)) with y | y | y
    · exact Or.inl y
    · refine Or.inr ⟨y, ?_⟩
      rw [← par]
      have : ¬ vlF f L (mg S b) / 10 ^ (A - N) % 2 = 1 := fun k => e2' (Or.inr ⟨y, k⟩)
      omega
    · exact absurd (Or.inl y) e2'
  · exact Or.inl eq
  · right
    obtain ⟨e1, e2, e3, e4⟩ := tR         S0 pk gt
    have hu := jD    S0 e3
    have ed : d' = d2 N := by
      rw [e1] at D
      obtain ⟨x1, x2⟩ := Dx.uniq D c4
      rw [← c4', ← x1, ← x2]
    have xs : 1 ≤ vlF f L (mg S b) / 10 ^ (A - N) := (Nat.le_div_iff_mul_le S0).2 (by rw [Nat.one_mul]; exact Nat.le_trans (Nat.pow_le_pow_right (by decide) (by omega)) low)
    have key : ∃ e : Dp, Dx e.1 e.2 (dnU (vlF f L (mg S b)) (10 ^ (A - N))) ∧ (∀ W, Calls Tryz.prog 24 #[dcV d'.1 d'.2 false, .int .i64 (N : Int), .bool false] W fun x w' => x = .returned (dcV e.1 e.2 false) ∧ Below W.heap.size W w') ∧
        (rnB (vlF f L (mg S b)) (10 ^ (A - N)) = true → 10 ^ (A - N) < 2 * (vlF f L (mg S b) % 10 ^ (A - N)) ∨ (2 * (vlF f L (mg S b) % 10 ^ (A - N)) = 10 ^ (A - N) ∧ (dgt d'.1 (N - 1) - 48) % 2 = 0)) := by
      by_cases ep : d'.2 = o
      · have epv : pv d'.1 d'.1.size = vlF f L (mg S b) / 10 ^ (A - N) + 1 := by
          have q := vl
          rw [show (d'.2 + (R0 : Int) - (d'.1.size : Int)).toNat = A - N by omega, e1, hu] at q
          unfold dnU at q
          rw [← Nat.succ_mul] at q
          exact Nat.eq_of_mul_eq_mul_right S0 q
        have ne1 : d'.1 ≠ ⟨#[49]⟩ := by
          intro k
          rw [k] at epv
          have : pv ⟨#[49]⟩ (⟨#[49]⟩ : ByteArray).size = 1 := rfl
          omega
        obtain ⟨s2, p2, E, M⟩ := tM         D d0 (by omega) (A := A) (by omega) (by omega) ne1
        rw [sz] at E M
        have ev : Z - 10 ^ (A - N) = dnU (vlF f L (mg S b)) (10 ^ (A - N)) := by rw [e1, hu, Nat.add_sub_cancel]
        rw [ev] at E
        refine ⟨(s2, p2), E, M, fun r => ?_⟩
        unfold rnB at r
        have par := nZ       sz (by omega)
        rw [epv] at par
        rcases of_decide_eq_true r with y | ⟨y1, y2⟩
        · exact Or.inl y
        · refine Or.inr ⟨y1, ?_⟩
          rw [← par]
          omega
      · have one : d'.1 = ⟨#[49]⟩ ∧ d'.2 = o + 1 := by
          rcases du.way with ⟨_, _, _, k3⟩ | ⟨_, m, k, _, _, _, _, _, _, _, K⟩
          · exact absurd (by rw [ed]; exact k3) ep
          · rcases K with ⟨_, k2, k3⟩ | ⟨_, _, _, k3⟩
            · rw [ed]; exact ⟨k2, k3⟩
            · exact absurd (by rw [ed]; exact k3) ep
        obtain ⟨o1, o2⟩ := one
        have N1 : N = 1 := by rw [← sz, o1]; rfl
        obtain ⟨da, db⟩ := d'
        dsimp only at *
        subst o1
        subst o2
        subst N1
        have nine := aBv     (o := o + 1) (A := A + 1) (by omega) (by omega) (by omega)
        rw [show A + 1 - 2 = A - 1 by omega, show o + 1 - 1 = o by omega] at nine
        have ten : Z = 10 * 10 ^ (A - 1) := by
          rw [← vl]
          show pv ⟨#[49]⟩ 1 * 10 ^ (o + 1 + (R0 : Int) - ((1 : Nat) : Int)).toNat = _
          rw [show (o + 1 + (R0 : Int) - ((1 : Nat) : Int)).toNat = (A - 1) + 1 by omega, Nat.pow_succ, show pv ⟨#[49]⟩ 1 = 1 from rfl]
          omega
        have ev : 9 * 10 ^ (A - 1) = dnU (vlF f L (mg S b)) (10 ^ (A - 1)) := by omega
        rw [ev] at nine
        refine ⟨(⟨#[57]⟩, o), nine, fun W => ?_, fun r => ?_⟩
        · have q := aAk      (o := o + 1) (by omega) (by omega) W
          rw [show o + 1 - 1 = o by omega] at q
          exact q
        · unfold rnB at r
          rcases of_decide_eq_true r with y | ⟨y1, _⟩
          · exact Or.inl y
          · exfalso
            have hi10 : 10 * 10 ^ (A - 1) ≤ hiF f L (mg S b) := by
              rw [← ten, e1]
              rcases       cM.1 e2 with ⟨_, _, y⟩ | ⟨_, _, y⟩ <;> omega
            exact aDa    h.fn.sf.fs.1 h.fn.m h.m0 hi10 (by omega)
    obtain ⟨e, E, M, R⟩ := key
    obtain ⟨x1, x2⟩ := Dx.uniq E c3
    refine ⟨false, e, _, E, Or.inl (by rw [← c1', ← x1, ← x2]), w, by rw [e1, Nat.add_comm], e3, M, Or.inr ⟨rfl, gt, fun hit => ?_⟩⟩
    have x := h.hd (c := c) E
    have hit' : hdB c s p t q (e.1, e.2) = true := hit
    rw [hit'] at x
    rcases e4 with e4 | e4
    · exact R e4
    · rw [e4] at x; cases x
end Go.Proofs.YtblkokjkmbpejaaGreatDoor
