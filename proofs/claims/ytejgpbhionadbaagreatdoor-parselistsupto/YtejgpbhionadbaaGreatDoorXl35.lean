/-
  Holds: PsB.
-/
import Derived.Test.YtejgpbhionadbaaGreatDoorShelf
import Derived.Lib.ItoaNum
import Derived.WalkSpells
import Derived.WalkLawsBesides
import Derived.Lib.Mul64
import Derived.Lib.TrailingZeros
import Derived.Deep.OwnRows
import Derived.Laws.CopyOwn
import Derived.BigQuiet
import Derived.Deep.RegionHeld3
import Derived.Deep.LoopGhost
import Derived.Deep.AppendLies
import Derived.Deep.DeepCutAuto
import Derived.Stop.Asserts
import Derived.RowKitTokens
import Derived.Lib.BufferWrite
import Derived.Lib.ConvBytes
import Derived.Test.YtejgpbhionadbaaGreatDoorRows
import Derived.Test.YtejgpbhionadbaaGreatDoorXl21
import Derived.Test.YtejgpbhionadbaaGreatDoorXl24
import Derived.Test.YtejgpbhionadbaaGreatDoorXl34
set_option maxRecDepth 100000
set_option maxHeartbeats 4000000
namespace Go.Proofs.YtejgpbhionadbaaGreatDoor
open Go.RowKit
theorem aAn    {mb : Option Nat} {W : World} (h : Mq mb 0 0 W 0 0) {k : Int} (hk : k = 1 ∨ k = 2) : Calls Tryz.prog 79 #[mqV mb, .int .i64 k] W fun x W' => x = .returned (.tuple #[]) ∧ Bt mb W W' ∧ Mq mb (if k = 1 then 1 else 0) (if k = 2 then 1 else 0) W' 0 0 := by
  cases mb with
  | none =>
    refine (tD        k W).mono ?_
    rintro x w1 ⟨rfl, rfl⟩
    exact ⟨rfl, Bt.refl _ _, h⟩
  | some b =>
    obtain ⟨p, p0, p1, m⟩ := h
    refine (aId     k (by decide) (by decide) (by decide) W m).mono ?_
    rintro x w1 ⟨rfl, b1, m1⟩
    have e1 : bQ    0 1 = 1 := by decide
    rw [e1] at m1
    refine ⟨rfl, Bt.ofBut b1, p, p0, p1, ?_⟩
    rcases hk with rfl | rfl <;> exact m1
def Rds (mb:Option Nat) (W:World) (lt:Prop):Prop:=∃ e t s:Int,Mq mb e t W 0 s/\e+t+s=1/\0<=e/\0<=t/\0<=s/\(lt -> s=0)
theorem aH9 {mb:Option Nat}{W:World}{k:Int}(hk:k=1 \/ k=2) (h:Mq mb (if k=1 then 1 else 0) (if k=2 then 1 else 0) W 0 0) (lt:Prop):Rds mb W lt:=by
 refine ⟨_,_,_,h,?_⟩
 rcases hk with rfl | rfl <;> simp
theorem aHr {mb:Option Nat}{W:World}(h:Mq mb 0 0 W 0 (0+1)) {lt:Prop}(n:¬ lt):Rds mb W lt:=⟨0,0,0+1,h,by decide,by decide,by decide,by decide,fun q=>absurd q n⟩
theorem Rds.step {mb:Option Nat}{W W':World}{lt:Prop}(h:Rds mb W lt) (b:Bl W W'):Rds mb W' lt:=by
 obtain ⟨e,t,s,m,r⟩:=h
 exact ⟨e,t,s,m.step b,r⟩
theorem aEv {z:Int}{d:ByteArray}{p:Int}{cu:Bool}{mb:Option Nat}{m x:Nat}{ex:Int}{w0 W:World}(mq:Mq mb 0 0 W 0 0) (F:Frm mb w0 W)
 (HD:∀ W,Cb 76 #[dcV d p cu] W (hdV m ex false))
 (FR:∀ W,Cb 77 #[hdV m ex false] W (vI 1))
 (XO:∀ W,Cs 78 #[vU (m:Int),vI ex,vI z] W (.tuple #[vU (x:Int),.bool true,.nilIface])) :
 Calls Tryz.prog 50 #[dcV d p cu,vI z,mqV mb] W fun o W'=>o=.returned (.tuple #[vU (x:Int),.nilIface])/\Bt mb W W'/\Mq mb (if (1:Int)=1 then 1 else 0) (if (1:Int)=2 then 1 else 0) W' 0 0:=by
 obtain ⟨po,hpo⟩:∃ po,mqV mb=.pointer po:=by cases mb <;> exact ⟨_,rfl⟩
 have HM:Hid (Mq mb 0 0 W 0 0/\Frm mb w0 W):=⟨mq,F⟩
 have HX:Hid (DcB (W.alloc (.cells #[.string d,vI p,.bool cu] 41)) W.heap.size (.string d) (vI p) (.bool cu)/\Bl W (W.alloc (.cells #[.string d,vI p,.bool cu] 41))):=⟨DcB.new _ _ _ _ _,bz _ _⟩
 clear mq F
 rw [hpo]
 unfold dcV hdV at *
 go_enter Tryz.func50,Tryz.ntmps50
 go_wp2_with fail
 refine (HD _).mono ?_
 rintro o w1 ⟨rfl,b1⟩
 have H1:Hid (DcB w1 W.heap.size (.string d) (vI p) (.bool cu)/\Bl W w1):=⟨HX.out.1.step b1,HX.out.2.trans (b1.mono HX.out.2.size)⟩
 have BA:Hid (Bl w1 (w1.alloc (.cells #[vU (m:Int),vI ex,.bool false] 146))):=bz _ _
 have G1:Hid (GrB (w1.alloc (.cells #[vU (m:Int),vI ex,.bool false] 146)) w1.heap.size (vU (m:Int)) (vI ex) (.bool false)):=GrB.new _ _ _ _ _
 clear b1 HX
 go_wp2_with fail
 refine (FR _).mono ?_
 rintro o w2 ⟨rfl,b2⟩
 have B2:Hid (Bl w1 w2):=BA.out.trans (b2.mono BA.out.size)
 have G2:Hid (GrB w2 w1.heap.size (vU (m:Int)) (vI ex) (.bool false)):=G1.out.step b2
 have H2:Hid (DcB w2 W.heap.size (.string d) (vI p) (.bool cu)/\Bl W w2):=⟨H1.out.1.step B2.out,H1.out.2.trans (B2.out.mono H1.out.2.size)⟩
 clear b2 BA G1 H1 HD FR
 obtain ⟨_,a0,a1,a2,_,_,_⟩:=G2.out
 go_wp2_with fail
 refine (XO _).mono ?_
 rintro o w2' ⟨rfl,e2⟩
 subst e2
 have RK:=aAn (HM.out.1.step H2.out.2) (k:=1) (.inl rfl)
 rw [hpo] at RK
 go_wp2_with fail
 refine RK.mono ?_
 rintro o w3 ⟨rfl,b3,m3⟩
 have H3:Hid (Bt mb W w3/\Mq mb (if (1:Int)=1 then 1 else 0) (if (1:Int)=2 then 1 else 0) w3 0 0):=⟨(Bt.of H2.out.2).trans b3,m3⟩
 clear b3 m3 RK
 go_wp2
 go_ret2
 exact ⟨rfl,H3.out.1,H3.out.2⟩
theorem aCq        {z : Int} {d : ByteArray} {p : Int} {cu : Bool} {mb : Option Nat} {m x : Nat} {ex : Int} {ec : Value} {er : Nat → Value} {R : Nat → Bool → Prop} {w0 W : World} (mq : Mq mb 0 0 W 0 0) (F : Frm mb w0 W)
    (HD : ∀ W, Calls Tryz.prog 76 #[dcV d p cu] W fun o w' => o = .returned (hdV m ex false) ∧ Below W.heap.size W w')
    (FR : ∀ W, Calls Tryz.prog 77 #[hdV m ex false] W fun o w' => o = .returned (.int .i64 1) ∧ Below W.heap.size W w')
    (XO : ∀ W, Calls Tryz.prog 78 #[.int .u64 (m : Int), .int .i64 ex, .int .i64 z] W fun o w' => o = .returned (.tuple #[.int .u64 0, .bool false, .nilIface]) ∧ w' = W)
    (PR : ∀ W, Below w0.heap.size w0 W → Calls Tryz.prog 80 #[.int .u64 (m : Int), .int .i64 ex, .bool false, .int .i64 z] W fun o w' => ∃ x ok, o = .returned (.tuple #[.int .u64 ((x : Nat) : Int), .bool ok]) ∧ R x ok ∧ Below W.heap.size W w')
    (BY : ∀ x, R x true → ∀ W, Calls Tryz.prog 81 #[.int .u64 (x : Int), .int .i64 z] W fun o w' => o = .returned (er x) ∧ Below W.heap.size W w')
    (CN : ∀ W, Frm mb w0 W → Mq mb 0 0 W 0 0 → Calls Tryz.prog 82 #[dcV d p cu, .int .i64 z, mqV mb] W fun o w' => o = .returned (.tuple #[.int .u64 (x : Int), ec]) ∧ Bt mb W w' ∧ Mq mb 0 0 w' 0 (0 + 1)) :
    Calls Tryz.prog 50 #[dcV d p cu, .int .i64 z, mqV mb] W fun o W' => Bt mb W W' ∧ ((∃ x, R x true ∧ o = .returned (.tuple #[.int .u64 ((x : Nat) : Int), er x]) ∧ Mq mb (if (2 : Int) = 1 then 1 else 0) (if (2 : Int) = 2 then 1 else 0) W' 0 0) ∨ (o = .returned (.tuple #[.int .u64 (x : Int), ec]) ∧ Mq mb 0 0 W' 0 (0 + 1))) := by
  obtain ⟨po, hpo⟩ : ∃ po, mqV mb = .pointer po := by cases mb <;> exact ⟨_, rfl⟩
  have HM : Hid (Mq mb 0 0 W 0 0 ∧ Frm mb w0 W) := ⟨mq, F⟩
  have HX : Hid (DcB (W.alloc (.cells #[.string d, .int .i64 p, .bool cu] 41)) W.heap.size (.string d) (.int .i64 p) (.bool cu) ∧ Below W.heap.size W (W.alloc (.cells #[.string d, .int .i64 p, .bool cu] 41))) := ⟨DcB.new _ _ _ _ _, (Below.refl _ _).alloc (Nat.le_refl _) _⟩
  clear mq F
  rw [hpo] at CN
  rw [hpo]
  unfold dcV hdV at *
  go_enter Tryz.func50, Tryz.ntmps50
  go_wp2_with fail
  refine (HD _).mono ?_
  rintro o w1 ⟨rfl, b1⟩
  have H1 : Hid (DcB w1 W.heap.size (.string d) (.int .i64 p) (.bool cu) ∧ Below W.heap.size W w1) := ⟨HX.out.1.step b1, HX.out.2.trans (b1.mono HX.out.2.size)⟩
  have BA : Hid (Below w1.heap.size w1 (w1.alloc (.cells #[.int .u64 (m : Int), .int .i64 ex, .bool false] 146))) := (Below.refl _ _).alloc (Nat.le_refl _) _
  have G1 : Hid (GrB (w1.alloc (.cells #[.int .u64 (m : Int), .int .i64 ex, .bool false] 146)) w1.heap.size (.int .u64 (m : Int)) (.int .i64 ex) (.bool false)) := GrB.new _ _ _ _ _
  clear b1 HX
  go_wp2_with fail
  refine (FR _).mono ?_
  rintro o w2 ⟨rfl, b2⟩
  have B2 : Hid (Below w1.heap.size w1 w2) := BA.out.trans (b2.mono BA.out.size)
  have G2 : Hid (GrB w2 w1.heap.size (.int .u64 (m : Int)) (.int .i64 ex) (.bool false)) := G1.out.step b2
  have H2 : Hid (DcB w2 W.heap.size (.string d) (.int .i64 p) (.bool cu) ∧ Below W.heap.size W w2) := ⟨H1.out.1.step B2.out, H1.out.2.trans (B2.out.mono H1.out.2.size)⟩
  clear b2 BA G1 H1 HD FR
  obtain ⟨_, a0, a1, a2, _, _, _⟩ := G2.out
  go_wp2_with fail
  refine (XO _).mono ?_
  rintro o w2' ⟨rfl, e2⟩
  subst e2
  go_wp2_with fail
  refine (PR _ (HM.out.2.below H2.out.2).1).mono ?_
  rintro o w3 ⟨y, ok, rfl, hr, b3⟩
  have H3 : Hid (DcB w3 W.heap.size (.string d) (.int .i64 p) (.bool cu) ∧ Below W.heap.size W w3) := ⟨H2.out.1.step b3, H2.out.2.trans (b3.mono H2.out.2.size)⟩
  clear b3 a0 a1 a2 G2 PR
  cases ok with
  | true =>
    have RK := aAn    (HM.out.1.step H3.out.2) (k := 2) (.inr rfl)
    rw [hpo] at RK
    have BY' := BY y hr
    have HR : Hid (R y true) := hr
    clear hr BY CN
    go_wp2_with fail
    refine RK.mono ?_
    rintro o w4 ⟨rfl, b4, m4⟩
    have H4 : Hid (Bt mb W w4 ∧ Mq mb (if (2 : Int) = 1 then 1 else 0) (if (2 : Int) = 2 then 1 else 0) w4 0 0) := ⟨(Bt.of H3.out.2).trans b4, m4⟩
    clear b4 m4 RK
    go_wp2_with fail
    refine (BY' _).mono ?_
    rintro o w5 ⟨rfl, b5⟩
    have H5 : Hid (Bt mb W w5 ∧ Mq mb (if (2 : Int) = 1 then 1 else 0) (if (2 : Int) = 2 then 1 else 0) w5 0 0) := ⟨H4.out.1.trans (Bt.of b5), H4.out.2.step b5⟩
    clear b5
    go_wp2
    go_ret2
    exact ⟨H5.out.1, .inl ⟨y, HR.out, rfl, H5.out.2⟩⟩
  | false =>
    obtain ⟨_, d0, d1, d2, _, _, _⟩ := H3.out.1
    have CN' := CN _ (HM.out.2.below H3.out.2) (HM.out.1.step H3.out.2)
    clear CN BY hr
    go_wp2_with fail
    refine CN'.mono ?_
    rintro o w4 ⟨rfl, b4, m4⟩
    have H4 : Hid (Bt mb W w4 ∧ Mq mb 0 0 w4 0 (0 + 1)) := ⟨(Bt.of H3.out.2).trans b4, m4⟩
    clear b4 m4 CN' d0 d1 d2
    go_wp2
    go_ret2
    exact ⟨H4.out.1, .inr ⟨rfl, H4.out.2⟩⟩
theorem aCr        {z : Int} {d : ByteArray} {p : Int} {cu : Bool} {mb : Option Nat} {m x : Nat} {ex : Int} {ec : Value} {er : Nat → Value} {R : Nat → Bool → Prop} {w0 W : World} (mq : Mq mb 0 0 W 0 0) (F : Frm mb w0 W)
    (HD : ∀ W, Calls Tryz.prog 76 #[dcV d p cu] W fun o w' => o = .returned (hdV m ex true) ∧ Below W.heap.size W w')
    (FR : ∀ W, Calls Tryz.prog 77 #[hdV m ex true] W fun o w' => o = .returned (.int .i64 2) ∧ Below W.heap.size W w')
    (PR : ∀ W, Below w0.heap.size w0 W → Calls Tryz.prog 80 #[.int .u64 (m : Int), .int .i64 ex, .bool true, .int .i64 z] W fun o w' => ∃ x ok, o = .returned (.tuple #[.int .u64 ((x : Nat) : Int), .bool ok]) ∧ R x ok ∧ Below W.heap.size W w')
    (BY : ∀ x, R x true → ∀ W, Calls Tryz.prog 81 #[.int .u64 (x : Int), .int .i64 z] W fun o w' => o = .returned (er x) ∧ Below W.heap.size W w')
    (CN : ∀ W, Frm mb w0 W → Mq mb 0 0 W 0 0 → Calls Tryz.prog 82 #[dcV d p cu, .int .i64 z, mqV mb] W fun o w' => o = .returned (.tuple #[.int .u64 (x : Int), ec]) ∧ Bt mb W w' ∧ Mq mb 0 0 w' 0 (0 + 1)) :
    Calls Tryz.prog 50 #[dcV d p cu, .int .i64 z, mqV mb] W fun o W' => Bt mb W W' ∧ ((∃ x, R x true ∧ o = .returned (.tuple #[.int .u64 ((x : Nat) : Int), er x]) ∧ Mq mb (if (2 : Int) = 1 then 1 else 0) (if (2 : Int) = 2 then 1 else 0) W' 0 0) ∨ (o = .returned (.tuple #[.int .u64 (x : Int), ec]) ∧ Mq mb 0 0 W' 0 (0 + 1))) := by
  obtain ⟨po, hpo⟩ : ∃ po, mqV mb = .pointer po := by cases mb <;> exact ⟨_, rfl⟩
  have HM : Hid (Mq mb 0 0 W 0 0 ∧ Frm mb w0 W) := ⟨mq, F⟩
  have HX : Hid (DcB (W.alloc (.cells #[.string d, .int .i64 p, .bool cu] 41)) W.heap.size (.string d) (.int .i64 p) (.bool cu) ∧ Below W.heap.size W (W.alloc (.cells #[.string d, .int .i64 p, .bool cu] 41))) := ⟨DcB.new _ _ _ _ _, (Below.refl _ _).alloc (Nat.le_refl _) _⟩
  clear mq F
  rw [hpo] at CN
  rw [hpo]
  unfold dcV hdV at *
  go_enter Tryz.func50, Tryz.ntmps50
  go_wp2_with fail
  refine (HD _).mono ?_
  rintro o w1 ⟨rfl, b1⟩
  have H1 : Hid (DcB w1 W.heap.size (.string d) (.int .i64 p) (.bool cu) ∧ Below W.heap.size W w1) := ⟨HX.out.1.step b1, HX.out.2.trans (b1.mono HX.out.2.size)⟩
  have BA : Hid (Below w1.heap.size w1 (w1.alloc (.cells #[.int .u64 (m : Int), .int .i64 ex, .bool true] 146))) := (Below.refl _ _).alloc (Nat.le_refl _) _
  have G1 : Hid (GrB (w1.alloc (.cells #[.int .u64 (m : Int), .int .i64 ex, .bool true] 146)) w1.heap.size (.int .u64 (m : Int)) (.int .i64 ex) (.bool true)) := GrB.new _ _ _ _ _
  clear b1 HX
  go_wp2_with fail
  refine (FR _).mono ?_
  rintro o w2 ⟨rfl, b2⟩
  have B2 : Hid (Below w1.heap.size w1 w2) := BA.out.trans (b2.mono BA.out.size)
  have G2 : Hid (GrB w2 w1.heap.size (.int .u64 (m : Int)) (.int .i64 ex) (.bool true)) := G1.out.step b2
  have H2 : Hid (DcB w2 W.heap.size (.string d) (.int .i64 p) (.bool cu) ∧ Below W.heap.size W w2) := ⟨H1.out.1.step B2.out, H1.out.2.trans (B2.out.mono H1.out.2.size)⟩
  clear b2 BA G1 H1 HD FR
  obtain ⟨_, a0, a1, a2, _, _, _⟩ := G2.out
  go_wp2_with fail
  refine (PR _ (HM.out.2.below H2.out.2).1).mono ?_
  rintro o w3 ⟨y, ok, rfl, hr, b3⟩
  have H3 : Hid (DcB w3 W.heap.size (.string d) (.int .i64 p) (.bool cu) ∧ Below W.heap.size W w3) := ⟨H2.out.1.step b3, H2.out.2.trans (b3.mono H2.out.2.size)⟩
  clear b3 a0 a1 a2 G2 PR
  cases ok with
  | true =>
    have RK := aAn    (HM.out.1.step H3.out.2) (k := 2) (.inr rfl)
    rw [hpo] at RK
    have BY' := BY y hr
    have HR : Hid (R y true) := hr
    clear hr BY CN
    go_wp2_with fail
    refine RK.mono ?_
    rintro o w4 ⟨rfl, b4, m4⟩
    have H4 : Hid (Bt mb W w4 ∧ Mq mb (if (2 : Int) = 1 then 1 else 0) (if (2 : Int) = 2 then 1 else 0) w4 0 0) := ⟨(Bt.of H3.out.2).trans b4, m4⟩
    clear b4 m4 RK
    go_wp2_with fail
    refine (BY' _).mono ?_
    rintro o w5 ⟨rfl, b5⟩
    have H5 : Hid (Bt mb W w5 ∧ Mq mb (if (2 : Int) = 1 then 1 else 0) (if (2 : Int) = 2 then 1 else 0) w5 0 0) := ⟨H4.out.1.trans (Bt.of b5), H4.out.2.step b5⟩
    clear b5
    go_wp2
    go_ret2
    exact ⟨H5.out.1, .inl ⟨y, HR.out, rfl, H5.out.2⟩⟩
  | false =>
    obtain ⟨_, d0, d1, d2, _, _, _⟩ := H3.out.1
    have CN' := CN _ (HM.out.2.below H3.out.2) (HM.out.1.step H3.out.2)
    clear CN BY hr
    go_wp2_with fail
    refine CN'.mono ?_
    rintro o w4 ⟨rfl, b4, m4⟩
    have H4 : Hid (Bt mb W w4 ∧ Mq mb 0 0 w4 0 (0 + 1)) := ⟨(Bt.of H3.out.2).trans b4, m4⟩
    clear b4 m4 CN' d0 d1 d2
    go_wp2
    go_ret2
    exact ⟨H4.out.1, .inr ⟨rfl, H4.out.2⟩⟩
theorem aK7    {z : Int} {g n f T : Nat} {L : Int} (hz : Fz z g n f T L) {M K : Nat} (hx : Xz z f T L M K) {mb : Option Nat} {w0 W : World} (mq : Mq mb 0 0 W 0 0) (F : Frm mb w0 W) (hT : Tab w0) {d : ByteArray} {p : Int} {cu : Bool} (h : VN d p cu) :
    Calls Tryz.prog 50 #[dcV d p cu, .int .i64 z, mqV mb] W fun o W' => o = .returned (.tuple #[.int .u64 (((nrX f T L d p cu).1 : Nat) : Int), if (nrX f T L d p cu).2 then .iface 63 (.int .i64 4) else .nilIface]) ∧ Bt mb W W' ∧ Rds mb W' (cu = false ∧ d.size ≤ 19 ∧ hdM d ≤ M ∧ -(K : Int) ≤ hdE d p ∧ hdE d p ≤ K) := by
  have HD := fun W => aEa       h W
  have FR := fun W => yG           (hdM d) (hdE d p) (hdR d cu) W
  have m0 : hdM d ≠ 0 := Nat.ne_of_gt (aIQ     h)
  have ml := aKX    h.dg
  obtain ⟨f0, T2, hn, ng, g2⟩ := fA      hz
  by_cases c1 : hdR d cu = false ∧ hdM d ≤ M ∧ -(K : Int) ≤ hdE d p ∧ hdE d p ≤ K
  · obtain ⟨r, q1, q2, q3⟩ := c1
    have rr := r
    unfold hdR at rr
    rw [Bool.or_eq_false_iff, decide_eq_false_iff_not] at rr
    obtain ⟨rfl, rk⟩ := rr
    have s19 : d.size ≤ 19 := by unfold hdK at rk; omega
    rw [r] at HD FR
    refine (aEv       mq F HD FR (fun W => aJ4     hx m0 q1 q2 q3 W)).mono ?_
    rintro o w' ⟨rfl, b, k⟩
    rw [aGt      hx h s19 q1 q2 q3]
    exact ⟨rfl, b, aH9   (.inl rfl) k _⟩
  · have nl : ¬ (cu = false ∧ d.size ≤ 19 ∧ hdM d ≤ M ∧ -(K : Int) ≤ hdE d p ∧ hdE d p ≤ K) := by
      rintro ⟨a, b, c⟩
      refine c1 ⟨?_, c⟩
      unfold hdR hdK
      rw [a, Bool.false_or, decide_eq_false_iff_not]
      omega
    have PR := fun W (hb : Below w0.heap.size w0 W) => aHt      hz ml (hdE d p) (hdR d cu) W (hT.next hb)
    have XL : ∀ x, Rnd f T L (clE (hdE d p)) (hdM d) (hdR d cu) x true → x ≤ n := fun x hr => by
      have := (qT     (f := f) (L := L) (d := d) (p := p) (c := cu) (show 0 < T by omega)).1
      rw [aBF     hz h hr] at this
      rw [hn]
      exact this
    have BY := fun x (hr : Rnd f T L (clE (hdE d p)) (hdM d) (hdR d cu) x true) W => aC9       hz (x := x) (by have := XL x hr; omega) W
    have CN : ∀ W, Frm mb w0 W → Mq mb 0 0 W 0 0 → Calls Tryz.prog 82 #[dcV d p cu, .int .i64 z, mqV mb] W fun o w' => o = .returned (.tuple #[.int .u64 (((nrX f T L d p cu).1 : Nat) : Int), if (nrX f T L d p cu).2 then .iface 63 (.int .i64 4) else .nilIface]) ∧ Bt mb W w' ∧ Mq mb 0 0 w' 0 (0 + 1) := by
      intro W F m
      refine (aHk      hz m (by decide) (by decide) F hT (.inr h)).mono ?_
      rintro o w' ⟨⟨r, er, rfl, e1, e2⟩, b, k⟩
      refine ⟨?_, b, k⟩
      rw [e1, e2]
      by_cases q : r = n <;> simp [q]
    have fin : ∀ {o : Ending} {W' : World}, Bt mb W W' ∧ ((∃ x, Rnd f T L (clE (hdE d p)) (hdM d) (hdR d cu) x true ∧ o = .returned (.tuple #[.int .u64 ((x : Nat) : Int), if x = n then .iface 63 (.int .i64 4) else .nilIface]) ∧ Mq mb (if (2 : Int) = 1 then 1 else 0) (if (2 : Int) = 2 then 1 else 0) W' 0 0) ∨ (o = .returned (.tuple #[.int .u64 (((nrX f T L d p cu).1 : Nat) : Int), if (nrX f T L d p cu).2 then .iface 63 (.int .i64 4) else .nilIface]) ∧ Mq mb 0 0 W' 0 (0 + 1))) →
        o = .returned (.tuple #[.int .u64 (((nrX f T L d p cu).1 : Nat) : Int), if (nrX f T L d p cu).2 then .iface 63 (.int .i64 4) else .nilIface]) ∧ Bt mb W W' ∧ Rds mb W' (cu = false ∧ d.size ≤ 19 ∧ hdM d ≤ M ∧ -(K : Int) ≤ hdE d p ∧ hdE d p ≤ K) := by
      rintro o W' ⟨b, ⟨x, hr, rfl, k⟩ | ⟨rfl, k⟩⟩
      · rw [aBF     hz h hr]
        refine ⟨?_, b, aH9   (.inr rfl) k _⟩
        by_cases q : x = n <;> simp [q]
      · exact ⟨rfl, b, aHr      k nl⟩
    cases r : hdR d cu with
    | true =>
      rw [r] at HD FR PR BY fin
      exact (aCr        mq F HD FR PR BY CN).mono fun o w' q => fin q
    | false =>
      rw [r] at HD FR PR BY fin
      have un : M < hdM d ∨ hdE d p < -(K : Int) ∨ (K : Int) < hdE d p := by
        apply Classical.byContradiction
        intro q
        exact c1 ⟨r, by omega, by omega, by omega⟩
      exact (aCq        mq F HD FR (fun W => aLQ    hx m0 un W) PR BY CN).mono fun o w' q => fin q
end Go.Proofs.YtejgpbhionadbaaGreatDoor
