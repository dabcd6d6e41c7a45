/-
  Holds: UPpF UPpE ULawPdM.
-/
import Derived.Test.YtejgpbhionadbaaGreatDoorRows
import Derived.Laws.Externs
import Derived.WalkKit
import Derived.WalkSpells
import Derived.WalkLawsBesides
import Derived.Lib.Mul64
import Derived.Lib.TrailingZeros
import Derived.Lib.ItoaNum
import Derived.BigQuiet
import Derived.Deep.RegionHeld3
import Derived.Deep.DeepCutAuto
import Derived.Deep.OwnRows
import Derived.Laws.CopyOwn
import Derived.Deep.AppendLies
import Derived.Stop.Asserts
import Derived.RowKitTokens
import Derived.Lib.Strings
import Derived.Lib.BufferWrite
import Derived.Lib.ConvBytes
import Derived.Test.YtejgpbhionadbaaGreatDoorXl19
set_option maxRecDepth 100000
set_option maxHeartbeats 4000000
namespace Go.Proofs.YtejgpbhionadbaaGreatDoor
open Go.RowKit
theorem aFH:Tryz.prog.underlying 197=some (.array 3 31):=by kernel_rfl
theorem aBT:Tryz.prog.underlying 31=some (.int .u64):=by kernel_rfl
theorem aDo:Tryz.prog.cellsOf 31=1:=by kernel_rfl
theorem mO:Tryz.prog.plainKey 31=true:=by kernel_rfl
theorem aEs (a b c d e f:Int) (w:World):(Op.equalIn 10000 197 (.agg #[vU a,vU b,vU c]) (.agg #[vU d,vU e,vU f])).run Tryz.prog w=.ok (a == d && (b == e && c == f)) w:=by
 obtain ⟨i,hi⟩:=info_of_underlying aBT
 rw [show (10000:Nat)=9999+1 from rfl,run_equalIn_array w 9999 _ _ aFH hi,aDo,show List.range 3=[0,1,2] from rfl]
 have q0:∀ x y z:Int,(part 31 #[vU x,vU y,vU z] (0 * 1)).run Tryz.prog w=.ok (vU x) w:=fun x y z=>run_part_plain w mO rfl
 have q1:∀ x y z:Int,(part 31 #[vU x,vU y,vU z] (1 * 1)).run Tryz.prog w=.ok (vU y) w:=fun x y z=>run_part_plain w mO rfl
 have q2:∀ x y z:Int,(part 31 #[vU x,vU y,vU z] (2 * 1)).run Tryz.prog w=.ok (vU z) w:=fun x y z=>run_part_plain w mO rfl
 have eq:∀ x y:Int,(Op.equalIn 9999 31 (vU x) (vU y)).run Tryz.prog w=.ok (x == y) w:=fun x y=>run_equalIn_int w 9998 _ _ _ x y aBT
 simp only [Op.eqItems,Sem.run_bind,Sem.run_ite,Sem.run_pure,q0,q1,q2,Result.andThen_ok,eq]
 cases (a == d) <;> cases (b == e) <;> cases (c == f) <;> simp
def upM (M:Nat) (X:Bool):Nat:=if X then M else M+1
def upN (M m:Nat) (X more:Bool):Nat:=upM M X * m+(if more then upM M X else 0)
theorem aDk {M m:Nat}{E:Int}(X more:Bool) (hM:M+1<2 ^ 128) (hm:m<18446744073709551616) (w:World):Cb 112 #[vU (m:Int),.bool more,pwV M E X] w (.tuple #[lgV (M * m),lgV (upN M m X more)]):=by
 cases X <;> cases more
 . exact aDh hM hm w
 . exact aDg hM hm w
 . exact aDj hM hm w
 . exact aDi hM hm w
theorem aHI {M m:Nat}{X more:Bool}(h0:2 ^ 127<=M) (hM:M+1<2 ^ 128) (hm:m<18446744073709551616):(M * m=0 \/ 2 ^ 127<=M * m)/\M * m<2 ^ 192/\(upN M m X more=0 \/ 2 ^ 127<=upN M m X more)/\upN M m X more<2 ^ 192:=by
 have key:∀ D,2 ^ 127<=D -> D<2 ^ 128 -> ∀ j,j<=18446744073709551616 -> (D * j=0 \/ 2 ^ 127<=D * j)/\D * j<2 ^ 192:=by
  intro D d1 d2 j hj
  constructor
  . rcases Nat.eq_zero_or_pos j with z | z
    . exact .inl (by rw [z,Nat.mul_zero])
    . exact .inr (Nat.le_trans d1 (Nat.le_mul_of_pos_right D z))
  . have a:D * j<=D * 2 ^ 64:=Nat.mul_le_mul_left D hj
    have b:D * 2 ^ 64<2 ^ 128 * 2 ^ 64:=Nat.mul_lt_mul_of_pos_right d2 (by decide)
    exact Nat.lt_of_le_of_lt a b
 have u:2 ^ 127<=upM M X/\upM M X<2 ^ 128:=by unfold upM;split <;> omega
 have e:upN M m X more=upM M X * (m+if more then 1 else 0):=by
  unfold upN
  rw [Nat.mul_add]
  split <;> simp
 rw [e]
 have a:=key M h0 (by omega) m (by omega)
 have b:=key _ u.1 u.2 (m+if more then 1 else 0) (by split <;> omega)
 exact ⟨a.1,a.2,b.1,b.2⟩
theorem aE1 (a b:Nat) (h:a<=b):2 ^ a<=2 ^ b:=Nat.pow_le_pow_right (by decide) h
theorem aLr (a b:Nat) (h:a<b):2 ^ a<2 ^ b:=Nat.pow_lt_pow_right (by decide) h
theorem aLs (a b c:Nat) (h:a+b<=c):2 ^ a * 2 ^ b<=2 ^ c:=by rw [<- Nat.pow_add];exact Nat.pow_le_pow_right (by decide) h
theorem aF6 {d M n A C Z Y:Nat}(d1:d<=A) (q2:M<C) (p4:A * C<=Z) (n0:0<n) (a:n * Y<d * (M+1)) (p1:Z<=Y):False:=by
 have p2:Y<=n * Y:=Nat.le_mul_of_pos_left _ n0
 have p3:d * (M+1)<=A * C:=Nat.mul_le_mul d1 q2
 omega
theorem aFy {k:Nat}(h:k<=400):10 ^ k<=2 ^ 1400:=Nat.le_trans (Nat.pow_le_pow_right (by decide) h) (by decide +kernel)
theorem Pw.bound {c:Int}{M:Nat}{E:Int}(h:Pw c M E) (h1:-400<=c) (h2:c<=400):-5000<=E/\E<=5000:=by
 have n1:pN c<=2 ^ 1400:=aFy (by omega)
 have d1:pD c<=2 ^ 1400:=aFy (by omega)
 have n0:=zK c
 have d0:=aP c
 obtain ⟨q1,q2,q3,q4⟩:=h
 generalize pN c=n at *
 generalize pD c=d at *
 constructor
 . apply Int.not_lt.1
   intro z
   have a:=q4.at E (by omega) (Int.le_refl _)
   rw [aB] at a
   unfold ev at a
   have p1:2 ^ 5000<=2 ^ (0 - E).toNat:=aE1 5000 _ (by omega)
   exact aF6 d1 q2 (aLs 1400 128 5000 (by omega)) n0 a p1
 . apply Int.not_lt.1
   intro z
   have a:=iR q3 0 (Int.le_refl _) (by omega)
   rw [aB] at a
   unfold ev at a
   have p1:2 ^ 5000<=2 ^ (E - 0).toNat:=aE1 5000 _ (by omega)
   have p2:2 ^ (E - 0).toNat<=M * 2 ^ (E - 0).toNat:=Nat.le_mul_of_pos_left _ (Nat.lt_of_lt_of_le (Nat.two_pow_pos 127) q1)
   have p3:M * 2 ^ (E - 0).toNat<=d * (M * 2 ^ (E - 0).toNat):=Nat.le_mul_of_pos_left _ d0
   have p4:2 ^ 1400<2 ^ 5000:=aLr 1400 5000 (by omega)
   exact absurd (Nat.le_trans p1 (Nat.le_trans p2 (Nat.le_trans p3 (Nat.le_trans a n1)))) (Nat.not_le.2 p4)
theorem aHS {X Y:Nat}(h:X ≠ Y):(x2 X == x2 Y && (x1 X == x1 Y && x0 X == x0 Y))=false:=by
 rw [Bool.eq_false_iff]
 intro z
 simp only [Bool.and_eq_true,beq_iff_eq] at z
 exact h (aMv z.1 z.2.1 z.2.2)
def clE (e:Int):Int:=max (-400) (min e 400)
def Rnd (f T:Nat) (L:Int) (c:Int) (m:Nat) (more:Bool) (x:Nat) (ok:Bool):Prop :=
 ∃ M E,Pw c M E/\((M * m=upN M m (decide (0<=c/\c<=55)) more/\ok=true/\NrT f T L (M * m) 1 E 0 x) \/
  (M * m ≠ upN M m (decide (0<=c/\c<=55)) more/\∃ y z,NrT f T L (M * m) 1 E 1 y/\NrT f T L (upN M m (decide (0<=c/\c<=55)) more) 1 E (-1) z/\((y=z/\ok=true/\x=y) \/ (y ≠ z/\ok=false/\x=0))))
theorem aHt      {s : Int} {g n f T : Nat} {L : Int} (hz : Fz s g n f T L) {m : Nat} (hm : m < 18446744073709551616) (e : Int) (more : Bool) (w : World) (hT : Tab w) :
    Calls Tryz.prog 80 #[.int .u64 (m : Int), .int .i64 e, .bool more, .int .i64 s] w fun o w' => ∃ x ok, o = .returned (.tuple #[.int .u64 ((x : Nat) : Int), .bool ok]) ∧ Rnd f T L (clE e) m more x ok ∧ Below w.heap.size w w' := by
  have H := fun W => aJe     hz W
  have hc : -400 ≤ clE e ∧ clE e ≤ 400 := by unfold clE; omega
  have OF := fun W hW => aLh    (clE e) hc.1 hc.2 W hW
  obtain ⟨c, hcl⟩ : ∃ c, c = clE e := ⟨_, rfl⟩
  rw [← hcl] at OF hc ⊢
  have HC : Hid (c = clE e) := hcl
  have OF' : ∀ x, x = c → ∀ W, Tab W → Calls Tryz.prog 111 #[.int .i64 x] W fun o w' => ∃ M E, o = .returned (.tuple #[pwV M E (decide (0 ≤ c ∧ c ≤ 55)), .nilIface]) ∧ Pw c M E ∧ Below W.heap.size W w' := fun x hx W hW => by rw [hx]; exact OF W hW
  have T0 : Hid (Tab w) := hT
  have HZ : Hid (Fz s g n f T L) := hz
  clear hcl OF hT hz
  go_enter Tryz.func80, Tryz.ntmps80
  go_wp2_with fail
  refine (H _).mono ?_
  rintro x w1 ⟨rfl, hb⟩
  have G1 : Hid (GrB (w1.alloc (.cells #[.int .i64 s, .int .i64 ((f : Int) + 1), .int .i64 L] 187)) w1.heap.size _ _ _) := GrB.new w1 _ _ _ _
  have B1 : Hid (Below w.heap.size w (w1.alloc (.cells #[.int .i64 s, .int .i64 ((f : Int) + 1), .int .i64 L] 187))) := hb.alloc hb.size _
  clear hb
  have T1 : Hid (Tab (w1.alloc (.cells #[.int .i64 s, .int .i64 ((f : Int) + 1), .int .i64 L] 187))) := T0.out.below B1.out T0.out.pos
  go_wp2_with fail
  all_goals
    first
    | (exfalso; omega)
    | (refine (OF' _ (by have := HC.out; unfold clE at this; omega) _ T1.out).mono ?_
       rintro x w2 ⟨M, E, rfl, hPw, hb⟩
       have G2 : Hid (GrB (w2.alloc (.cells #[.int .u64 (hiW M), .int .u64 (loW M), .int .i64 E, .bool (decide (0 ≤ c ∧ c ≤ 55))] 193)) w1.heap.size _ _ _) := (G1.out.step hb).al _
       have P2 : Hid (FlB (w2.alloc (.cells #[.int .u64 (hiW M), .int .u64 (loW M), .int .i64 E, .bool (decide (0 ≤ c ∧ c ≤ 55))] 193)) w2.heap.size _ _ _ _) := FlB.new w2 _ _ _ _ _
       have B2 : Hid (Below w.heap.size w (w2.alloc (.cells #[.int .u64 (hiW M), .int .u64 (loW M), .int .i64 E, .bool (decide (0 ≤ c ∧ c ≤ 55))] 193))) := (B1.out.trans (hb.mono B1.out.size)).alloc (B1.out.trans (hb.mono B1.out.size)).size _
       have T2 : Hid (Tab (w2.alloc (.cells #[.int .u64 (hiW M), .int .u64 (loW M), .int .i64 E, .bool (decide (0 ≤ c ∧ c ≤ 55))] 193))) := T0.out.below B2.out T0.out.pos
       have HP : Hid (Pw c M E) := hPw
       have hroom := hPw.room hc.1 hc.2
       have h127 := hPw.1
       have hE := hPw.bound hc.1 hc.2
       have BD := fun W => aDk       (M := M) (m := m) (E := E) (decide (0 ≤ c ∧ c ≤ 55)) more hroom hm W
       have EN := aHI      (X := decide (0 ≤ c ∧ c ≤ 55)) (more := more) h127 hroom hm
       have N0 := fun W hW => mP        HZ.out EN.1 EN.2.1 hE.1 hE.2 (t := 0) (by omega) W hW
       have N1 := fun W hW => mP        HZ.out EN.1 EN.2.1 hE.1 hE.2 (t := 1) (by omega) W hW
       have N2 := fun W hW => mP        HZ.out EN.2.2.1 EN.2.2.2 hE.1 hE.2 (t := -1) (by omega) W hW
       clear EN hb hPw hroom h127 hE G1 B1 T1 H OF' hc
       unfold pwV at BD ⊢
       obtain ⟨X, hX⟩ : ∃ X, X = decide (0 ≤ c ∧ c ≤ 55) := ⟨_, rfl⟩
       rw [← hX] at BD G2 P2 B2 T2 N2 ⊢
       have HXX : Hid (X = decide (0 ≤ c ∧ c ≤ 55)) := hX
       clear hX
       by_cases hEq : M * m = upN M m X more
       · rw [← hEq] at BD
         have HEQ : Hid (M * m = upN M m X more) := hEq
         unfold lgV at BD N0
         clear hEq N1 N2
         have HN : Hid (∀ x, NrT f T L (M * m) 1 E 0 x → Rnd f T L c m more x true) := fun x hx => ⟨M, E, HP.out, .inl ⟨by rw [← HXX.out]; exact HEQ.out, rfl, hx⟩⟩
         generalize NrT f T L (M * m) 1 E 0 = R at *
         generalize x2 (M * m) = p2 at *
         generalize x1 (M * m) = p1 at *
         generalize x0 (M * m) = p0 at *
         generalize hiW M = h at *
         generalize loW M = l at *
         go_wp2_with fail
         refine (BD _).mono ?_
         rintro x w3 ⟨rfl, hb⟩
         have G3 : Hid (GrB ((w3.alloc (.cells #[.int .u64 p2, .int .u64 p1, .int .u64 p0] 197)).alloc (.cells #[.int .u64 p2, .int .u64 p1, .int .u64 p0] 197)) w1.heap.size _ _ _) := ((G2.out.step hb).al _).al _
         have P3 : Hid (FlB ((w3.alloc (.cells #[.int .u64 p2, .int .u64 p1, .int .u64 p0] 197)).alloc (.cells #[.int .u64 p2, .int .u64 p1, .int .u64 p0] 197)) w2.heap.size _ _ _ _) := ((P2.out.step hb).al _).al _
         have L3 : Hid (GrB ((w3.alloc (.cells #[.int .u64 p2, .int .u64 p1, .int .u64 p0] 197)).alloc (.cells #[.int .u64 p2, .int .u64 p1, .int .u64 p0] 197)) w3.heap.size _ _ _) := (GrB.new w3 _ _ _ _).al _
         have U3 : Hid (GrB ((w3.alloc (.cells #[.int .u64 p2, .int .u64 p1, .int .u64 p0] 197)).alloc (.cells #[.int .u64 p2, .int .u64 p1, .int .u64 p0] 197)) (w3.heap.size + 1) (.int .u64 p2) (.int .u64 p1) (.int .u64 p0)) := by
           have z := GrB.new (w3.alloc (.cells #[.int .u64 p2, .int .u64 p1, .int .u64 p0] 197)) (.int .u64 p2) (.int .u64 p1) (.int .u64 p0) 197
           show GrB _ _ _ _ _
           simpa using z
         have B3 : Hid (Below w.heap.size w ((w3.alloc (.cells #[.int .u64 p2, .int .u64 p1, .int .u64 p0] 197)).alloc (.cells #[.int .u64 p2, .int .u64 p1, .int .u64 p0] 197))) := ((B2.out.trans (hb.mono B2.out.size)).alloc (B2.out.trans (hb.mono B2.out.size)).size _).alloc (by have := (B2.out.trans (hb.mono B2.out.size)).size; simp; omega) _
         have T3 : Hid (Tab ((w3.alloc (.cells #[.int .u64 p2, .int .u64 p1, .int .u64 p0] 197)).alloc (.cells #[.int .u64 p2, .int .u64 p1, .int .u64 p0] 197))) := T0.out.below B3.out T0.out.pos
         clear hb G2 P2 B2 T2 BD
         go_upto_region 6 with fail
         generalize ((w3.alloc (.cells #[.int .u64 p2, .int .u64 p1, .int .u64 p0] 197)).alloc (.cells #[.int .u64 p2, .int .u64 p1, .int .u64 p0] 197)) = v at *
         obtain ⟨_, g0, g1, g2, _, _, _⟩ := G3.out
         obtain ⟨_, a0, a1, a2, a3, _, _, _, _⟩ := P3.out
         obtain ⟨_, l0, l1, l2, _, _, _⟩ := L3.out
         obtain ⟨_, u0, u1, u2, _, _, _⟩ := U3.out
         go_wp2_with (first | simp only [aEs   , beq_self_eq_true, Bool.and_self, Result.andThen_ok])
         refine (N0 _ T3.out).mono ?_
         rintro x w4 ⟨y, rfl, hy, hb⟩
         have B4 : Hid (Below w.heap.size w w4) := B3.out.trans (hb.mono B3.out.size)
         clear hb
         go_wp2
         go_ret2
         exact ⟨y, true, rfl, HN.out y hy, B4.out⟩
       · have HNE := aHS      hEq
         have HEQ : Hid (M * m ≠ upN M m X more) := hEq
         unfold lgV at BD N1 N2
         clear hEq N0
         have HN : Hid (∀ y z, NrT f T L (M * m) 1 E 1 y → NrT f T L (upN M m X more) 1 E (-1) z → Rnd f T L c m more (if y = z then y else 0) (decide (y = z))) := fun y z hy hz => ⟨M, E, HP.out, .inr ⟨by rw [← HXX.out]; exact HEQ.out, y, z, hy, by rw [← HXX.out]; exact hz, by
           by_cases yz : y = z
           · exact .inl ⟨yz, decide_eq_true yz, if_pos yz⟩
           · exact .inr ⟨yz, decide_eq_false yz, if_neg yz⟩⟩⟩
         generalize NrT f T L (M * m) 1 E 1 = R at *
         generalize NrT f T L (upN M m X more) 1 E (-1) = R2 at *
         generalize x2 (upN M m X more) = q2 at *
         generalize x1 (upN M m X more) = q1 at *
         generalize x0 (upN M m X more) = q0 at *
         generalize x2 (M * m) = p2 at *
         generalize x1 (M * m) = p1 at *
         generalize x0 (M * m) = p0 at *
         generalize hiW M = h at *
         generalize loW M = l at *
         go_wp2_with fail
         refine (BD _).mono ?_
         rintro x w3 ⟨rfl, hb⟩
         have G3 : Hid (GrB ((w3.alloc (.cells #[.int .u64 p2, .int .u64 p1, .int .u64 p0] 197)).alloc (.cells #[.int .u64 q2, .int .u64 q1, .int .u64 q0] 197)) w1.heap.size _ _ _) := ((G2.out.step hb).al _).al _
         have P3 : Hid (FlB ((w3.alloc (.cells #[.int .u64 p2, .int .u64 p1, .int .u64 p0] 197)).alloc (.cells #[.int .u64 q2, .int .u64 q1, .int .u64 q0] 197)) w2.heap.size _ _ _ _) := ((P2.out.step hb).al _).al _
         have L3 : Hid (GrB ((w3.alloc (.cells #[.int .u64 p2, .int .u64 p1, .int .u64 p0] 197)).alloc (.cells #[.int .u64 q2, .int .u64 q1, .int .u64 q0] 197)) w3.heap.size _ _ _) := (GrB.new w3 _ _ _ _).al _
         have U3 : Hid (GrB ((w3.alloc (.cells #[.int .u64 p2, .int .u64 p1, .int .u64 p0] 197)).alloc (.cells #[.int .u64 q2, .int .u64 q1, .int .u64 q0] 197)) (w3.heap.size + 1) (.int .u64 q2) (.int .u64 q1) (.int .u64 q0)) := by
           have z := GrB.new (w3.alloc (.cells #[.int .u64 p2, .int .u64 p1, .int .u64 p0] 197)) (.int .u64 q2) (.int .u64 q1) (.int .u64 q0) 197
           show GrB _ _ _ _ _
           simpa using z
         have B3 : Hid (Below w.heap.size w ((w3.alloc (.cells #[.int .u64 p2, .int .u64 p1, .int .u64 p0] 197)).alloc (.cells #[.int .u64 q2, .int .u64 q1, .int .u64 q0] 197))) := ((B2.out.trans (hb.mono B2.out.size)).alloc (B2.out.trans (hb.mono B2.out.size)).size _).alloc (by have := (B2.out.trans (hb.mono B2.out.size)).size; simp; omega) _
         have T3 : Hid (Tab ((w3.alloc (.cells #[.int .u64 p2, .int .u64 p1, .int .u64 p0] 197)).alloc (.cells #[.int .u64 q2, .int .u64 q1, .int .u64 q0] 197))) := T0.out.below B3.out T0.out.pos
         clear hb G2 P2 B2 T2 BD
         go_upto_region 6 with fail
         generalize ((w3.alloc (.cells #[.int .u64 p2, .int .u64 p1, .int .u64 p0] 197)).alloc (.cells #[.int .u64 q2, .int .u64 q1, .int .u64 q0] 197)) = v at *
         obtain ⟨_, g0, g1, g2, _, _, _⟩ := G3.out
         obtain ⟨_, a0, a1, a2, a3, _, _, _, _⟩ := P3.out
         obtain ⟨_, l0, l1, l2, _, _, _⟩ := L3.out
         obtain ⟨_, u0, u1, u2, _, _, _⟩ := U3.out
         go_wp2_with (first | simp only [aEs   , HNE, Result.andThen_ok])
         refine (N1 _ T3.out).mono ?_
         rintro x w4 ⟨y, rfl, hy, hb⟩
         have G4 : Hid (GrB w4 w1.heap.size _ _ _) := G3.out.step hb
         have P4 : Hid (FlB w4 w2.heap.size _ _ _ _) := P3.out.step hb
         have U4 : Hid (GrB w4 (w3.heap.size + 1) _ _ _) := U3.out.step hb
         have B4 : Hid (Below w.heap.size w w4) := B3.out.trans (hb.mono B3.out.size)
         have T4 : Hid (Tab w4) := T3.out.next hb
         clear hb G3 P3 L3 U3 B3 T3 g0 g1 g2 a0 a1 a2 a3 l0 l1 l2 u0 u1 u2
         obtain ⟨_, g0, g1, g2, _, _, _⟩ := G4.out
         obtain ⟨_, a0, a1, a2, a3, _, _, _, _⟩ := P4.out
         obtain ⟨_, u0, u1, u2, _, _, _⟩ := U4.out
         go_wp2_with fail
         refine (N2 _ T4.out).mono ?_
         rintro x w5 ⟨z, rfl, hz, hb⟩
         have B5 : Hid (Below w.heap.size w w5) := B4.out.trans (hb.mono B4.out.size)
         clear hb
         have FIN := HN.out y z hy hz
         by_cases yz : y = z
         · rw [if_pos yz, decide_eq_true yz] at FIN
           have HF : Hid (Rnd f T L c m more y true) := FIN
           clear FIN HN hy hz
           subst yz
           go_wp2
           go_ret2
           exact ⟨y, true, rfl, HF.out, B5.out⟩
         · rw [if_neg yz, decide_eq_false yz] at FIN
           have HF : Hid (Rnd f T L c m more 0 false) := FIN
           clear FIN HN hy hz
           have yz2 : ((y : Int) == (z : Int)) = false := by simp; omega
           go_wp2
           go_ret2
           exact ⟨0, false, rfl, HF.out, B5.out⟩)
end Go.Proofs.YtejgpbhionadbaaGreatDoor
namespace Go.Proofs.YtejgpbhionadbaaGreatDoor
theorem qU {f T:Nat}(hf:0<f) (hT:0<T) {L:Int}{n d:Nat}{e:Int}(t:Int) (d0:d ≠ 0):∃ x,NrT f T L n d e t x:=by
 by_cases n0:n=0
 . subst n0
   exact ⟨0,fZ (Nat.pos_of_ne_zero d0) hT⟩
 . obtain ⟨b,hb⟩:=rF hf (L:=L) (e:=e) t n0 d0
   exact ⟨_,b,hb,rfl⟩
theorem aHK (M m:Nat) (X:Bool):upN M m X true=(m+1) * upM M X:=by
 unfold upN
 rw [if_pos rfl,Nat.add_mul,Nat.one_mul,Nat.mul_comm]
theorem aHJ (M m:Nat) (X:Bool):upN M m X false=m * upM M X:=by
 unfold upN
 rw [if_neg (by decide),Nat.add_zero,Nat.mul_comm]
theorem Rnd.right0 {f T:Nat}(hT:0<T) {L c:Int}{m x:Nat}(h:Rnd f T L c m false x true) {y:Nat}(hy:NrT f T L (m * pN c) (pD c) 0 0 y):y=x:=by
 obtain ⟨M,E,hP,h⟩:=h
 have ex:=kR hP
 rw [aHJ,Nat.mul_comm M m] at h
 by_cases X:0<=c/\c<=55
 . rw [decide_eq_true X] at h
   rcases h with ⟨_,_,h⟩ | ⟨h,_⟩
   . exact hy.uniq (aP c) ((nR (aP c) Nat.one_pos (sQ (ex.2 X) m) x).2 h)
   . exact absurd rfl h
 . rw [decide_eq_false X] at h
   have hx:¬ vE (pN c) (pD c) 0 M E:=fun z=>X (ex.1 z)
   rcases h with ⟨e,_,h⟩ | ⟨e,a,b,ha,hb,k⟩
   . have m0:m=0:=by
      unfold upM at e
      rw [if_neg (by decide),Nat.mul_add,Nat.mul_one] at e
      omega
     subst m0
     rw [Nat.zero_mul] at h hy
     rw [hy.uniq (aP c) (fZ (aP c) hT),h.uniq Nat.one_pos (fZ Nat.one_pos hT)]
   . have m0:0<m:=by
      rcases Nat.eq_zero_or_pos m with z | z
      . exact absurd (by rw [z,Nat.zero_mul,Nat.zero_mul]) e
      . exact z
     rcases k with ⟨rfl,_,rfl⟩ | ⟨_,k,_⟩
     . unfold upM at hb
       rw [if_neg (by decide)] at hb
       have lt:=hP.lt hx m0
       exact NrT.between (aP c) Nat.one_pos Nat.one_pos lt.le (.inr lt) (hP.hi m0).le (.inr (hP.hi m0)) ha hb hy
     . cases k
theorem Rnd.right1 {f T:Nat}{L c:Int}{m x:Nat}(h:Rnd f T L c m true x true):(∀ y,NrT f T L (m * pN c) (pD c) 0 1 y -> y=x)/\(∀ y,NrT f T L ((m+1) * pN c) (pD c) 0 (-1) y -> y=x):=by
 obtain ⟨M,E,hP,h⟩:=h
 have ex:=kR hP
 have M0:0<M:=Nat.lt_of_lt_of_le (Nat.two_pow_pos 127) hP.1
 rw [aHK,Nat.mul_comm M m] at h
 have ne:∀ X,m * M ≠ (m+1) * upM M X:=by
  intro X e
  have a:m * M<=m * upM M X:=Nat.mul_le_mul_left m (by unfold upM;split <;> omega)
  have b:0<upM M X:=by unfold upM;split <;> omega
  rw [Nat.add_mul,Nat.one_mul] at e
  omega
 rcases h with ⟨e,_⟩ | ⟨_,a,b,ha,hb,k⟩
 . exact absurd e (ne _)
 . rcases k with ⟨rfl,_,rfl⟩ | ⟨_,k,_⟩
   . by_cases X:0<=c/\c<=55
     . rw [decide_eq_true X] at hb
       have hb2:NrT f T L ((m+1) * M) 1 E (-1) x:=hb
       refine ⟨fun y hy=>hy.uniq (aP c) ((nR (aP c) Nat.one_pos (sQ (ex.2 X) m) x).2 ha),fun y hy=>hy.uniq (aP c) ((nR (aP c) Nat.one_pos (sQ (ex.2 X) (m+1)) x).2 hb2)⟩
     . rw [decide_eq_false X] at hb
       have hb2:NrT f T L ((m+1) * (M+1)) 1 E (-1) x:=hb
       have s1:fLt (m * M) 1 E ((m+1) * pN c) (pD c) 0:=fLt.both (hP.lo m) (yF (zK c) (aP c) (Nat.lt_succ_self m)) Nat.one_pos
       have s2:=hP.hi (m:=m+1) (Nat.succ_pos m)
       have s3:fLt (m * pN c) (pD c) 0 ((m+1) * (M+1)) 1 E:=fLt.both (yF (zK c) (aP c) (Nat.lt_succ_self m)).le s2 (aP c)
       exact ⟨fun y hy=>NrT.between (aP c) Nat.one_pos Nat.one_pos (hP.lo m) (.inl (Int.le_refl _)) s3.le (.inr s3) ha hb2 hy,
        fun y hy=>NrT.between (aP c) Nat.one_pos Nat.one_pos s1.le (.inr s1) s2.le (.inr s2) ha hb2 hy⟩
   . cases k
end Go.Proofs.YtejgpbhionadbaaGreatDoor
