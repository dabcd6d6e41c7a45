/-
  Holds: UIeN UEwA UEwB UEwC.
-/
import Derived.Laws.BitsAllLaws
import Derived.Laws.FloatArith
import Derived.Test.YtejgpbhionadbaaGreatDoorChecked
import Derived.Laws.Externs
import Derived.WalkKit
import Derived.WalkSpells
import Derived.WalkLawsBesides
import Derived.Test.YtejgpbhionadbaaGreatDoorXg8
set_option maxRecDepth 100000
set_option maxHeartbeats 4000000
namespace Go.Proofs.YtejgpbhionadbaaGreatDoor
def Is (f T:Nat) (L:Int) (n b:Nat):Prop:=b<T * 2 ^ f∧Eqv n 0 (mt f b) (xp f L b)
theorem Is.rd {f T:Nat}(hf:0<f) {L:Int}{n b:Nat}(n0:n ≠ 0) (h:Is f T L n b):rdA f T L n 1 0 false=(b,false):=by
 have v:vE n 1 0 (mt f b) (xp f L b):=by
  obtain ⟨K,a,c,q⟩:=h.2
  exact ⟨K,a,c,by rw [Nat.one_mul];exact q⟩
 rw [rdA_of hf n0 (by decide) (RD_val false (by decide) v),if_pos h.1]
theorem is_of {f T:Nat}{L:Int}{n m k:Nat}(hn:n=m * 2 ^ k) (m0:m ≠ 0) (hm:m<2 ^ (f+1)) (hL:L≤0) (hT:(k:Int) - L+2≤T):∃ b,Is f T L n b:=by
 have l1:2 ^ m.log2≤m:=Nat.log2_self_le m0
 have l2:m<2 ^ (m.log2+1):=Nat.lt_log2_self
 have lf:m.log2≤f:=by
  have a:2 ^ m.log2<2 ^ (f+1):=Nat.lt_of_le_of_lt l1 hm
  have:=(Nat.pow_lt_pow_iff_right (by decide:1<2)).1 a
  omega
 obtain ⟨t,ht⟩:∃ t:Nat,t=min (f - m.log2) ((k:Int) - L).toNat:=⟨_,rfl⟩
 have g:Good f L (m * 2 ^ t) ((k:Int) - t):=by
  refine ⟨?_,by omega,?_⟩
  · have a:=Nat.mul_lt_mul_of_pos_right l2 (Nat.two_pow_pos t)
    rw [← Nat.pow_add] at a
    exact Nat.lt_of_lt_of_le a (Nat.pow_le_pow_right (by decide) (by omega))
  · by_cases c:f - m.log2≤((k:Int) - L).toNat
    · left
      have a:=Nat.mul_le_mul_right (2 ^ t) l1
      rw [← Nat.pow_add,show m.log2+t=f from by omega] at a
      exact a
    · right
      omega
 obtain ⟨p1,p2⟩:=ly_parts g
 refine ⟨ly f L (m * 2 ^ t) ((k:Int) - t),?_,?_⟩
 · unfold ly
   have a:=g.1
   rw [Nat.pow_succ] at a
   have b:(((k:Int) - t - L).toNat+2) * 2 ^ f≤T * 2 ^ f:=Nat.mul_le_mul_right _ (by omega)
   rw [Nat.add_mul] at b
   omega
 · rw [p1,p2,hn]
   have a:=Eqv.shl m (k:Int) t
   have b:=Eqv.shl m (k:Int) k
   rw [Int.sub_self] at b
   exact b.symm.trans a
theorem eqv_mul {a b a' b':Nat}{x y x' y':Int}(h:Eqv a x a' x') (k:Eqv b y b' y'):Eqv (a * b) (x+y) (a' * b') (x'+y'):=by
 have p:=h.all (min x x') (by omega) (by omega)
 have q:=k.all (min y y') (by omega) (by omega)
 refine ⟨min x x'+min y y',by omega,by omega,?_⟩
 unfold ev at p q ⊢
 rw [show (x+y - (min x x'+min y y')).toNat=(x - min x x').toNat+(y - min y y').toNat from by omega,show (x'+y' - (min x x'+min y y')).toNat=(x' - min x x').toNat+(y' - min y y').toNat from by omega,Nat.pow_add,Nat.pow_add]
 rw [Nat.mul_mul_mul_comm,p,q,Nat.mul_mul_mul_comm]
theorem mul_is {F:Ieee.Format}{f T:Nat}{L:Int}(h:FmtN F f T L) {n m x y:Nat}(hx:Is f T L n x) (hy:Is f T L m y):F.mul x y=some (rdA f T L (n * m) 1 0 false).1:=by
 rw [mul_rd h hx.1 hy.1]
 congr 2
 refine rdA_same h.fpos (by decide) (by decide) ?_
 have e:=eqv_mul hx.2 hy.2
 rw [Nat.mul_one,Nat.mul_one]
 rw [Int.add_zero] at e
 exact e.symm
theorem eqv_flip {n m a b:Nat}{x y:Int}(hx:Eqv n 0 a x) (hy:Eqv m 0 b y):Eqv (a * m) (x - y) (n * b) 0:=by
 have p:=hx.all (min x (min 0 y)) (by omega) (by omega)
 have q:=hy.all (min y (min 0 x)) (by omega) (by omega)
 refine ⟨min x (min 0 y)+min (-y) (min 0 (-x))+min 0 y+min 0 x,by omega,by omega,?_⟩
 have e1:=eqv_mul hx (Eqv.symm hy)
 have z:=e1.symm
 have d:=z.all (min x (min 0 y)+min y (min 0 x)) (by omega) (by omega)
 clear p q
 unfold ev at d ⊢
 obtain ⟨K,hK⟩:∃ K,K=min x (min 0 y)+min y (min 0 x):=⟨_,rfl⟩
 obtain ⟨J,hJ⟩:∃ J,J=min x (min 0 y)+min (-y) (min 0 (-x))+min 0 y+min 0 x:=⟨_,rfl⟩
 rw [← hK] at d
 rw [← hJ]
 rw [Int.add_zero,Int.zero_add] at d
 have s:(x - K).toNat=(x - y - (K - y)).toNat:=by omega
 have s2:(y - K).toNat=(0 - (K - y)).toNat:=by omega
 rw [s,s2] at d
 have w1:J≤K - y ∨ K - y≤J:=by omega
 rcases w1 with c | c
 · rw [show (x - y - J).toNat=(x - y - (K - y)).toNat+(K - y - J).toNat from by omega,show (0 - J).toNat=(0 - (K - y)).toNat+(K - y - J).toNat from by omega,Nat.pow_add,Nat.pow_add,← Nat.mul_assoc,← Nat.mul_assoc,d]
 · have hp:=Nat.two_pow_pos (J - (K - y)).toNat
   rw [show (x - y - (K - y)).toNat=(x - y - J).toNat+(J - (K - y)).toNat from by omega,show (0 - (K - y)).toNat=(0 - J).toNat+(J - (K - y)).toNat from by omega,Nat.pow_add,Nat.pow_add,← Nat.mul_assoc,← Nat.mul_assoc] at d
   exact Nat.eq_of_mul_eq_mul_right hp d
theorem Is.ne {f T:Nat}{L:Int}{n b:Nat}(n0:n ≠ 0) (h:Is f T L n b):b ≠ 0:=by
 rintro rfl
 refine h.2.pos n0 ?_
 unfold mt
 rw [Nat.zero_div]
 rfl
theorem div_is {F:Ieee.Format}{f T:Nat}{L:Int}(h:FmtN F f T L) {n m x y:Nat}(n0:n ≠ 0) (m0:m ≠ 0) (hx:Is f T L n x) (hy:Is f T L m y):F.div x y=some (rdA f T L n m 0 false).1:=by
 rw [div_rd h hx.1 hy.1 (hx.ne n0) (hy.ne m0)]
 congr 2
 refine rdA_same h.fpos (hy.2.pos m0) m0 ?_
 exact eqv_flip hx.2 hy.2
theorem ofInt_rd {k:FloatKind}{f T:Nat}{L:Int}(h:FmtN k.format f T L) (n:Nat):floatOfInt k (n:Int)=(rdA f T L n 1 0 false).1:=by
 unfold floatOfInt FloatKind.nearest FloatKind.encode
 rw [show decide ((n:Int)<0)=false from decide_eq_false (by omega),Int.natAbs_natCast]
 show k.format.nearest false n 0=_
 exact nearest_rd h n 0
theorem ofInt_is {k:FloatKind}{f T:Nat}{L:Int}(h:FmtN k.format f T L) {n b:Nat}(n0:n ≠ 0) (hb:Is f T L n b):floatOfInt k (n:Int)=b:=by
 rw [ofInt_rd h,hb.rd h.fpos n0]
theorem fmtF32:FmtN FloatKind.f32.format 23 255 (-149):=fmt32
theorem fmtF64:FmtN FloatKind.f64.format 52 2047 (-1074):=fmt64
theorem is_small64 {n:Nat}(n0:n ≠ 0) (h:n≤9007199254740992):∃ b,Is 52 2047 (-1074) n b:=by
 by_cases c:n=9007199254740992
 · exact is_of (m:=1) (k:=53) (by rw [c]) (by decide) (by decide) (by decide) (by decide)
 · exact is_of (m:=n) (k:=0) (by rw [Nat.pow_zero,Nat.mul_one]) n0 (by simp only [Nat.reduceAdd,Nat.reducePow];omega) (by decide) (by decide)
theorem is_small32 {n:Nat}(n0:n ≠ 0) (h:n≤16777216):∃ b,Is 23 255 (-149) n b:=by
 by_cases c:n=16777216
 · exact is_of (m:=1) (k:=24) (by rw [c]) (by decide) (by decide) (by decide) (by decide)
 · exact is_of (m:=n) (k:=0) (by rw [Nat.pow_zero,Nat.mul_one]) n0 (by simp only [Nat.reduceAdd,Nat.reducePow];omega) (by decide) (by decide)
theorem ten_split (k:Nat):10 ^ k=5 ^ k * 2 ^ k:=by rw [← Nat.mul_pow]
theorem is_ten64 {k:Nat}(h:k≤22):∃ b,Is 52 2047 (-1074) (10 ^ k) b:=by
 refine is_of (ten_split k) (Nat.ne_of_gt (Nat.pow_pos (by decide))) ?_ (by decide) (by omega)
 exact Nat.lt_of_le_of_lt (Nat.pow_le_pow_right (by decide) h) (by decide)
theorem is_ten32 {k:Nat}(h:k≤10):∃ b,Is 23 255 (-149) (10 ^ k) b:=by
 refine is_of (ten_split k) (Nat.ne_of_gt (Nat.pow_pos (by decide))) ?_ (by decide) (by omega)
 exact Nat.lt_of_le_of_lt (Nat.pow_le_pow_right (by decide) h) (by decide)
theorem Is.uniq {f T:Nat}(hf:0<f) {L:Int}{n b b':Nat}(n0:n ≠ 0) (h:Is f T L n b) (h':Is f T L n b'):b=b':=by
 have e:=(h.rd hf n0).symm.trans (h'.rd hf n0)
 exact congrArg Prod.fst e
theorem mul_held {F:Ieee.Format}{f T:Nat}{L:Int}(h:FmtN F f T L) {n m x y b:Nat}(n0:n ≠ 0) (m0:m ≠ 0) (hx:Is f T L n x) (hy:Is f T L m y) (hb:Is f T L (n * m) b):F.mul x y=some b:=by
 rw [mul_is h hx hy,hb.rd h.fpos (Nat.mul_ne_zero n0 m0)]
end Go.Proofs.YtejgpbhionadbaaGreatDoor
namespace Go.Proofs.YtejgpbhionadbaaGreatDoor
open Go.RowKit
theorem f64bits (b:Nat) (w:World):(callFunc 144 #[.float .f64 b]).run Tryz.prog w=.ok (.value (vU (b:Int))) w:=by
 rw [run_callFunc_extern Tryz.func144 (by kernel_rfl) (by kernel_rfl) (by kernel_rfl) (e:=Extern.MathFloatBits.float64bits) (by kernel_rfl)]
 rfl
theorem f32bits (b:Nat) (w:World):(callFunc 142 #[.float .f32 b]).run Tryz.prog w=.ok (.value (.int .u32 (b:Int))) w:=by
 rw [run_callFunc_extern Tryz.func142 (by kernel_rfl) (by kernel_rfl) (by kernel_rfl) (e:=Extern.MathFloatBits.float32bits) (by kernel_rfl)]
 rfl
def exA (f T:Nat) (L:Int) (m:Nat) (e:Int):Nat:=(rdA f T L (m * 10 ^ e.toNat) (10 ^ (-e).toNat) 0 false).1
theorem exA_up {f T:Nat}{L:Int}{m k:Nat}:exA f T L m (k:Int)=(rdA f T L (m * 10 ^ k) 1 0 false).1:=by
 unfold exA
 rw [Int.toNat_natCast,show (-(k:Int)).toNat=0 from by omega,Nat.pow_zero]
theorem exA_dn {f T:Nat}{L:Int}{m k:Nat}:exA f T L m (-(k:Int))=(rdA f T L m (10 ^ k) 0 false).1:=by
 unfold exA
 rw [show (- -(k:Int)).toNat=k from by omega,show (-(k:Int)).toNat=0 from by omega,Nat.pow_zero,Nat.mul_one]
theorem is_one64:Is 52 2047 (-1074) 1 4607182418800017408:=⟨by decide,-52,by decide,by decide +kernel,by decide +kernel⟩
theorem is_tens64:Is 52 2047 (-1074) 10 4621819117588971520:=⟨by decide,-49,by decide,by decide +kernel,by decide +kernel⟩
theorem ten_ne (k:Nat):10 ^ k ≠ 0:=Nat.ne_of_gt (Nat.pow_pos (by decide))
theorem ten_ok (n:Nat) (hn:n≤22) (w:World):Calls Tryz.prog 186 #[vI (n:Int)] w fun e w'=>(∃ b,e=.returned (.float .f64 b)∧Is 52 2047 (-1074) (10 ^ n) b)∧w'=w:=by
 go_enter Tryz.func186,Tryz.ntmps186
 go_wp2
 go_loop [3,5] (fun pv iv=>∃ k b:Nat,pv=.float .f64 b∧iv=vI (k:Int)∧k≤n∧Hid (Is 52 2047 (-1074) (10 ^ k) b)) (fun _ iv=>n - (intOf iv).toNat)
 case atStart=>exact ⟨0,_,rfl,rfl,Nat.zero_le _,is_one64⟩
 case round =>
  obtain ⟨k,b,rfl,rfl,hk,HB⟩:=hrel
  by_cases c:k<n
  · obtain ⟨b',hb'⟩:=is_ten64 (k:=k+1) (by omega)
    have hm:floatBits .mul .f64 b 4621819117588971520=some b':=mul_held fmtF64 (ten_ne k) (by decide) HB.out is_tens64 (by rw [← Nat.pow_succ];exact hb')
    have hop:∀ t w,(binOp .mul t (.float .f64 b) (.float .f64 4621819117588971520)).run Tryz.prog w=.ok (.float .f64 b') w:=fun t w=>run_float_arith w .mul t .f64 _ _ _ hm
    have HB':Hid (Is 52 2047 (-1074) (10 ^ (k+1)) b'):=hb'
    clear hb' hm HB
    go_wp2_with (simp only [hop])
    go_round
    case rel=>exact ⟨k+1,b',rfl,by go_num,by omega,HB'⟩
    case measure=>simp [intOf];omega
  · obtain rfl:k=n:=by omega
    go_wp2
    go_ret
    exact ⟨⟨_,rfl,HB.out⟩,rfl⟩
theorem narrow_is {n b b':Nat}(n0:n ≠ 0) (h:Is 52 2047 (-1074) n b) (h':Is 23 255 (-149) n b'):floatToFloatBits .f64 b .f32=some b':=by
 have e1:FloatKind.f64.decode b=.number false (mt 52 b) (xp 52 (-1074) b):=read_fin fmtF64 h.1
 have e2:FloatKind.f32.encode (.number false (mt 52 b) (xp 52 (-1074) b))=b':=by
  show FloatKind.f32.format.nearest false (mt 52 b) (xp 52 (-1074) b)=b'
  rw [nearest_rd fmtF32]
  have e:=h'.rd (by decide) n0
  rw [rdA_same (d:=1) (d':=1) (n':=mt 52 b) (e':=xp 52 (-1074) b) (by decide) (by decide) (by decide) (by rw [Nat.mul_one,Nat.mul_one];exact h.2)] at e
  rw [e]
 have e3:FloatKind.f32.decode b'=.number false (mt 23 b') (xp 23 (-149) b'):=read_fin fmtF32 h'.1
 unfold floatToFloatBits
 rw [if_neg (by decide),e1]
 simp only [e2,e3,Ieee.Datum.isInfinity]
 rfl
theorem of_zero64:floatOfInt .f64 ((0:Nat):Int)=0:=by decide +kernel
theorem of_zero32:floatOfInt .f32 ((0:Nat):Int)=0:=by decide +kernel
theorem exA_zero (f T:Nat) (L e:Int):exA f T L 0 e=0:=by
 unfold exA rdA
 rw [Nat.zero_mul,if_pos rfl]
theorem mul64 {m k p:Nat}(hm:m≤9007199254740992) (hp:Is 52 2047 (-1074) (10 ^ k) p) (h0:m=0 → k=0):floatBits .mul .f64 (floatOfInt .f64 (m:Int)) p=some (exA 52 2047 (-1074) m (k:Int)):=by
 by_cases m0:m=0
 · obtain rfl:=h0 m0
   subst m0
   obtain rfl:=hp.uniq (by decide) (by decide) is_one64
   rw [exA_zero,of_zero64]
   decide +kernel
 · obtain ⟨b,hb⟩:=is_small64 m0 hm
   rw [ofInt_is fmtF64 m0 hb,exA_up]
   exact mul_is fmtF64 hb hp
theorem quo64 {m k p:Nat}(hm:m≤9007199254740992) (m0:m ≠ 0) (hp:Is 52 2047 (-1074) (10 ^ k) p):floatBits .quo .f64 (floatOfInt .f64 (m:Int)) p=some (exA 52 2047 (-1074) m (-(k:Int))):=by
 obtain ⟨b,hb⟩:=is_small64 m0 hm
 rw [ofInt_is fmtF64 m0 hb,exA_dn]
 exact div_is fmtF64 m0 (ten_ne k) hb hp
theorem is_one32:Is 23 255 (-149) 1 1065353216:=⟨by decide,-23,by decide,by decide +kernel,by decide +kernel⟩
theorem mul32 {m k p:Nat}(hm:m≤16777216) (hp:Is 23 255 (-149) (10 ^ k) p) (h0:m=0 → k=0):floatBits .mul .f32 (floatOfInt .f32 (m:Int)) p=some (exA 23 255 (-149) m (k:Int)):=by
 by_cases m0:m=0
 · obtain rfl:=h0 m0
   subst m0
   obtain rfl:=hp.uniq (by decide) (by decide) is_one32
   rw [exA_zero,of_zero32]
   decide +kernel
 · obtain ⟨b,hb⟩:=is_small32 m0 hm
   rw [ofInt_is fmtF32 m0 hb,exA_up]
   exact mul_is fmtF32 hb hp
theorem quo32 {m k p:Nat}(hm:m≤16777216) (m0:m ≠ 0) (hp:Is 23 255 (-149) (10 ^ k) p):floatBits .quo .f32 (floatOfInt .f32 (m:Int)) p=some (exA 23 255 (-149) m (-(k:Int))):=by
 obtain ⟨b,hb⟩:=is_small32 m0 hm
 rw [ofInt_is fmtF32 m0 hb,exA_dn]
 exact div_is fmtF32 m0 (ten_ne k) hb hp
theorem double_up (m k:Nat) (hm:m≤9007199254740992) (hk:k≤22) (h0:m=0 → k=0) (w:World):Cs 145 #[vU (m:Int),vI (k:Int)] w (.float .f64 (exA 52 2047 (-1074) m (k:Int))):=by
 have T:=fun W=>ten_ok k hk W
 have HF:Hid (∀ p,Is 52 2047 (-1074) (10 ^ k) p → floatBits .mul .f64 (floatOfInt .f64 (m:Int)) p=some (exA 52 2047 (-1074) m (k:Int))):=fun p hp=>mul64 hm hp h0
 generalize exA 52 2047 (-1074) m (k:Int)=R at *
 have c:¬ (k:Int)<0:=by omega
 clear hm h0
 go_enter Tryz.func145,Tryz.ntmps145
 go_wp2_with fail
 refine (T _).mono ?_
 rintro e w1 ⟨⟨p,rfl,hp⟩,rfl⟩
 have hop:∀ t w,(binOp .mul t (.float .f64 (floatOfInt .f64 (m:Int))) (.float .f64 p)).run Tryz.prog w=.ok (.float .f64 R) w:=fun t w=>run_float_arith w .mul t .f64 _ _ _ (HF.out p hp)
 clear T hp HF
 go_wp2
 go_ret
 exact ⟨rfl,rfl⟩
theorem double_dn (m k:Nat) (hm:m≤9007199254740992) (m0:m ≠ 0) (hk:k≤22) (k0:0<k) (w:World):Cs 145 #[vU (m:Int),vI (-(k:Int))] w (.float .f64 (exA 52 2047 (-1074) m (-(k:Int)))):=by
 have T:=fun W=>ten_ok k hk W
 have HF:Hid (∀ p,Is 52 2047 (-1074) (10 ^ k) p → floatBits .quo .f64 (floatOfInt .f64 (m:Int)) p=some (exA 52 2047 (-1074) m (-(k:Int)))):=fun p hp=>quo64 hm m0 hp
 generalize exA 52 2047 (-1074) m (-(k:Int))=R at *
 have c:-(k:Int)<0:=by omega
 clear hm m0 k0
 go_enter Tryz.func145,Tryz.ntmps145
 go_wp2_with fail
 refine (T _).mono ?_
 rintro e w1 ⟨⟨p,rfl,hp⟩,rfl⟩
 have hop:∀ t w,(binOp .quo t (.float .f64 (floatOfInt .f64 (m:Int))) (.float .f64 p)).run Tryz.prog w=.ok (.float .f64 R) w:=fun t w=>run_float_arith w .quo t .f64 _ _ _ (HF.out p hp)
 clear T hp HF
 go_wp2
 go_ret
 exact ⟨rfl,rfl⟩
theorem single_up (m k:Nat) (hm:m≤16777216) (hk:k≤10) (h0:m=0 → k=0) (w:World):Cs 143 #[vU (m:Int),vI (k:Int)] w (.float .f32 (exA 23 255 (-149) m (k:Int))):=by
 have T:=fun W=>ten_ok k (by omega) W
 obtain ⟨q,hq⟩:=is_ten32 hk
 have HF:Hid (floatBits .mul .f32 (floatOfInt .f32 (m:Int)) q=some (exA 23 255 (-149) m (k:Int))∧Is 23 255 (-149) (10 ^ k) q):=⟨mul32 hm hq h0,hq⟩
 generalize exA 23 255 (-149) m (k:Int)=R at *
 have c:¬ (k:Int)<0:=by omega
 clear hm h0 hq
 go_enter Tryz.func143,Tryz.ntmps143
 go_wp2_with fail
 refine (T _).mono ?_
 rintro e w1 ⟨⟨p,rfl,hp⟩,rfl⟩
 have hop:∀ t w,(binOp .mul t (.float .f32 (floatOfInt .f32 (m:Int))) (.float .f32 q)).run Tryz.prog w=.ok (.float .f32 R) w:=fun t w=>run_float_arith w .mul t .f32 _ _ _ HF.out.1
 have hc:∀ w,(convert 234 231 (.float .f64 p)).run Tryz.prog w=.ok (.float .f32 q) w:=fun w=>run_convert_float_float w 234 231 .f64 .f32 p q (by kernel_rfl) (by kernel_rfl) (narrow_is (ten_ne k) hp HF.out.2)
 clear T hp HF
 go_wp2
 go_ret
 exact ⟨rfl,rfl⟩
theorem single_dn (m k:Nat) (hm:m≤16777216) (m0:m ≠ 0) (hk:k≤10) (k0:0<k) (w:World):Cs 143 #[vU (m:Int),vI (-(k:Int))] w (.float .f32 (exA 23 255 (-149) m (-(k:Int)))):=by
 have T:=fun W=>ten_ok k (by omega) W
 obtain ⟨q,hq⟩:=is_ten32 hk
 have HF:Hid (floatBits .quo .f32 (floatOfInt .f32 (m:Int)) q=some (exA 23 255 (-149) m (-(k:Int)))∧Is 23 255 (-149) (10 ^ k) q):=⟨quo32 hm m0 hq,hq⟩
 generalize exA 23 255 (-149) m (-(k:Int))=R at *
 have c:-(k:Int)<0:=by omega
 clear hm m0 hq k0
 go_enter Tryz.func143,Tryz.ntmps143
 go_wp2_with fail
 refine (T _).mono ?_
 rintro e w1 ⟨⟨p,rfl,hp⟩,rfl⟩
 have hop:∀ t w,(binOp .quo t (.float .f32 (floatOfInt .f32 (m:Int))) (.float .f32 q)).run Tryz.prog w=.ok (.float .f32 R) w:=fun t w=>run_float_arith w .quo t .f32 _ _ _ HF.out.1
 have hc:∀ w,(convert 234 231 (.float .f64 p)).run Tryz.prog w=.ok (.float .f32 q) w:=fun w=>run_convert_float_float w 234 231 .f64 .f32 p q (by kernel_rfl) (by kernel_rfl) (narrow_is (ten_ne k) hp HF.out.2)
 clear T hp HF
 go_wp2
 go_ret
 exact ⟨rfl,rfl⟩
theorem exA_lt32 (m:Nat) (e:Int):exA 23 255 (-149) m e<4294967296:=by
 have:=(rdA_end (f:=23) (T:=255) (L:=(-149)) (n:=m * 10 ^ e.toNat) (d:=10 ^ (-e).toNat) (e:=0) (more:=false) (by decide)).1
 unfold exA
 omega
theorem reckon_64 {m:Nat}{e:Int}(D:∀ W,Cs 145 #[vU (m:Int),vI e] W (.float .f64 (exA 52 2047 (-1074) m e))) (w:World):Cs 107 #[vU (m:Int),vI e,vI 64] w (vU ((exA 52 2047 (-1074) m e:Nat):Int)):=by
 generalize exA 52 2047 (-1074) m e=R at *
 go_enter Tryz.func107,Tryz.ntmps107
 go_wp2_with fail
 refine (D _).mono ?_
 rintro x w1 ⟨rfl,rfl⟩
 go_wp2_with (simp only [f64bits])
 go_ret
 exact ⟨rfl,rfl⟩
theorem reckon_32 {m:Nat}{e:Int}(D:∀ W,Cs 143 #[vU (m:Int),vI e] W (.float .f32 (exA 23 255 (-149) m e))) (w:World):Cs 107 #[vU (m:Int),vI e,vI 32] w (vU ((exA 23 255 (-149) m e:Nat):Int)):=by
 have l:=exA_lt32 m e
 generalize exA 23 255 (-149) m e=R at *
 go_enter Tryz.func107,Tryz.ntmps107
 go_wp2_with fail
 refine (D _).mono ?_
 rintro x w1 ⟨rfl,rfl⟩
 go_wp2_with (simp only [f32bits])
 go_ret
 exact ⟨rfl,rfl⟩
def Xz (s:Int) (f T:Nat) (L:Int) (M K:Nat):Prop:=(s=32∧f=23∧T=255∧L = -149∧M=16777216∧K=10) ∨ (s=64∧f=52∧T=2047∧L = -1074∧M=9007199254740992∧K=22)
theorem reckon_ok {s:Int}{f T:Nat}{L:Int}{M K:Nat}(h:Xz s f T L M K) {m:Nat}{e:Int}(hm:m≤M) (h0:-(K:Int)≤e) (h1:e≤K) (hz:m=0 → e=0) (w:World):Cs 107 #[vU (m:Int),vI e,vI s] w (vU ((exA f T L m e:Nat):Int)):=by
 rcases h with ⟨rfl,rfl,rfl,rfl,rfl,rfl⟩ | ⟨rfl,rfl,rfl,rfl,rfl,rfl⟩
 · refine reckon_32 (fun W=>?_) w
   by_cases c:0≤e
   · obtain ⟨k,rfl⟩:∃ k:Nat,e=(k:Int):=⟨e.toNat,by omega⟩
     exact single_up m k hm (by omega) (fun z=>by have:=hz z;omega) W
   · obtain ⟨k,rfl⟩:∃ k:Nat,e = -(k:Int):=⟨(-e).toNat,by omega⟩
     exact single_dn m k hm (fun z=>by have:=hz z;omega) (by omega) (by omega) W
 · refine reckon_64 (fun W=>?_) w
   by_cases c:0≤e
   · obtain ⟨k,rfl⟩:∃ k:Nat,e=(k:Int):=⟨e.toNat,by omega⟩
     exact double_up m k hm (by omega) (fun z=>by have:=hz z;omega) W
   · obtain ⟨k,rfl⟩:∃ k:Nat,e = -(k:Int):=⟨(-e).toNat,by omega⟩
     exact double_dn m k hm (fun z=>by have:=hz z;omega) (by omega) (by omega) W
theorem most_ok {s:Int}{f T:Nat}{L:Int}{M K:Nat}(h:Xz s f T L M K) (w:World):Cs 106 #[vI s] w (.tuple #[vU (M:Int),vI (K:Int),.nilIface]):=by
 rcases h with ⟨rfl,rfl,rfl,rfl,rfl,rfl⟩ | ⟨rfl,rfl,rfl,rfl,rfl,rfl⟩
 · go_enter Tryz.func106,Tryz.ntmps106
   go_wp2
   refine bodyPost_ret (v:=.tuple #[vU 16777216,vI 10,.nilIface]) (by simp [results,Tryz.results106,go_sem]) rfl ⟨rfl,rfl⟩
 · go_enter Tryz.func106,Tryz.ntmps106
   go_wp2
   refine bodyPost_ret (v:=.tuple #[vU 9007199254740992,vI 22,.nilIface]) (by simp [results,Tryz.results106,go_sem]) rfl ⟨rfl,rfl⟩
theorem xof_yes {s:Int}{f T:Nat}{L:Int}{M K:Nat}(h:Xz s f T L M K) {m:Nat}{e:Int}(m0:m ≠ 0) (hm:m≤M) (h0:-(K:Int)≤e) (h1:e≤K) (w:World):Cs 78 #[vU (m:Int),vI e,vI s] w (.tuple #[vU ((exA f T L m e:Nat):Int),.bool true,.nilIface]):=by
 have T:=fun W=>most_ok h W
 have R:=fun W=>reckon_ok h hm h0 h1 (fun z=>absurd z m0) W
 have c0:((m:Int) == 0)=false:=by simp;omega
 have c1:¬ (M:Int)<(m:Int):=by omega
 have c2:¬ e < -(K:Int):=by omega
 have c3:¬ (K:Int)<e:=by omega
 have hk:K≤22:=by rcases h with ⟨_,_,_,_,_,q⟩ | ⟨_,_,_,_,_,q⟩ <;> omega
 clear h hm h0 h1 m0
 generalize exA f _ L m e=RR at *
 go_enter Tryz.func78,Tryz.ntmps78
 go_wp2_with fail
 refine (T _).mono ?_
 rintro x w1 ⟨rfl,rfl⟩
 go_wp2_with fail
 refine (R _).mono ?_
 rintro x w1 ⟨rfl,rfl⟩
 go_wp2
 refine bodyPost_ret (v:=.tuple #[vU (RR:Int),.bool true,.nilIface]) (by simp [results,Tryz.results78,go_sem]) rfl ⟨rfl,rfl⟩
theorem xof_un {s:Int}{f T:Nat}{L:Int}{M K:Nat}(h:Xz s f T L M K) {m:Nat}{e:Int}(m0:m ≠ 0) (hm:M<m ∨ e < -(K:Int) ∨ (K:Int)<e) (w:World):Cs 78 #[vU (m:Int),vI e,vI s] w (.tuple #[vU 0,.bool false,.nilIface]):=by
 have T:=fun W=>most_ok h W
 have c0:((m:Int) == 0)=false:=by simp;omega
 have hk:K≤22:=by rcases h with ⟨_,_,_,_,_,q⟩ | ⟨_,_,_,_,_,q⟩ <;> omega
 clear h m0
 by_cases c1:(M:Int)<(m:Int)
 · clear hm
   go_enter Tryz.func78,Tryz.ntmps78
   go_wp2_with fail
   refine (T _).mono ?_
   rintro x w1 ⟨rfl,rfl⟩
   go_wp2
   refine bodyPost_ret (v:=.tuple #[vU 0,.bool false,.nilIface]) (by simp [results,Tryz.results78,go_sem]) rfl ⟨rfl,rfl⟩
 · by_cases c2:e < -(K:Int)
   · clear hm
     go_enter Tryz.func78,Tryz.ntmps78
     go_wp2_with fail
     refine (T _).mono ?_
     rintro x w1 ⟨rfl,rfl⟩
     go_wp2
     refine bodyPost_ret (v:=.tuple #[vU 0,.bool false,.nilIface]) (by simp [results,Tryz.results78,go_sem]) rfl ⟨rfl,rfl⟩
   · have c3:(K:Int)<e:=by omega
     clear hm
     go_enter Tryz.func78,Tryz.ntmps78
     go_wp2_with fail
     refine (T _).mono ?_
     rintro x w1 ⟨rfl,rfl⟩
     go_wp2
     refine bodyPost_ret (v:=.tuple #[vU 0,.bool false,.nilIface]) (by simp [results,Tryz.results78,go_sem]) rfl ⟨rfl,rfl⟩
end Go.Proofs.YtejgpbhionadbaaGreatDoor
