/-
  What a call of the document's DivWord answers, for all numbers of two words and all words: the quotient and what is left, or ErrZero.
-/
import Derived.Test.YtghbngjjdeameaaGreatDoorQuoM
import Derived.Test.YtghbngjjdeameaaGreatDoorShift
import Derived.Test.YtghbngjjdeameaaGreatDoorWide2
namespace Go.Proofs.YtghbngjjdeameaaGreatDoor
open Go.RowKit

theorem rdivw_zero (ah al : Int) (w : World) :
    Calls Tryz.prog 49 #[.agg #[.int .u64 ah, .int .u64 al], .int .u64 0] w fun e w' => e = .returned (.tuple #[.agg #[.int .u64 0, .int .u64 0], .int .u64 0, .int .i64 10]) ∧ Below w.heap.size w w' := by
  go_enter Tryz.func49, Tryz.ntmps49
  go_wp2
  exact bodyPost_ret (v := .tuple #[.agg #[.int .u64 0, .int .u64 0], .int .u64 0, .int .i64 10]) (by simp [results, Tryz.results49, go_sem]) rfl ⟨rfl, ((Below.refl _ _).alloc (Nat.le_refl _) _).alloc (by simp) _⟩

/-- A box with a number of two words. -/
structure Box (w : World) (n : Nat) (h l : Int) : Prop where
  c0 : w.cell? ⟨n, 0, none⟩ = some (.int .u64 h)
  c1 : w.cell? ⟨n, 1, none⟩ = some (.int .u64 l)
  fz : ∀ o, w.frozen? ⟨n, o, none⟩ = false

theorem Box.below {w w' : World} {n : Nat} {h l : Int} (B : Box w n h l) (hb : Below w.heap.size w w') (hn : n < w.heap.size) : Box w' n h l :=
  ⟨(hb.cell (p := ⟨n, 0, none⟩) hn).trans B.c0, (hb.cell (p := ⟨n, 1, none⟩) hn).trans B.c1, fun o => (hb.frozen (p := ⟨n, o, none⟩) hn).trans (B.fz o)⟩
theorem Box.lo {w : World} {n : Nat} {h l : Int} (B : Box w n h l) (l' : Int) : Box (w.setCell ⟨n, 1, none⟩ (.int .u64 l')) n h l' :=
  ⟨(World.cell?_setCell_other _ _ _ _ (by simp)).trans B.c0, World.cell?_setCell_same _ _ _ B.c1, fun o => by simp only [World.frozen?_setCell]; exact B.fz o⟩
theorem Box.both {w : World} {n : Nat} {h l : Int} (B : Box w n h l) (h' l' : Int) : Box ((w.setCell ⟨n, 0, none⟩ (.int .u64 h')).setCell ⟨n, 1, none⟩ (.int .u64 l')) n h' l' :=
  ⟨(World.cell?_setCell_other _ _ _ _ (by simp)).trans (World.cell?_setCell_same _ _ _ B.c0), World.cell?_setCell_same _ _ _ ((World.cell?_setCell_other _ _ _ _ (by simp)).trans B.c1), fun o => by simp only [World.frozen?_setCell]; exact B.fz o⟩
theorem Box.other {w : World} {n m o : Nat} {h l : Int} {v : Value} (B : Box w n h l) (hm : m ≠ n) : Box (w.setCell ⟨m, o, none⟩ v) n h l :=
  ⟨(World.cell?_setCell_other _ _ _ _ (by intro e; exact hm (congrArg Addr.block e))).trans B.c0, (World.cell?_setCell_other _ _ _ _ (by intro e; exact hm (congrArg Addr.block e))).trans B.c1, fun o => by simp only [World.frozen?_setCell]; exact B.fz o⟩
theorem Box.alloc {w : World} {n : Nat} {h l : Int} (B : Box w n h l) (hn : n < w.heap.size) (o : Obj) : Box (w.alloc o) n h l :=
  B.below ((Below.refl _ _).alloc (Nat.le_refl _) _) hn
theorem Box.new (w : World) (h l : Int) (t : TypeId) : Box (w.alloc (.cells #[.int .u64 h, .int .u64 l] t)) w.heap.size h l :=
  ⟨by simp, by simp, fun o => World.frozen?_alloc_new _ _ _ _⟩

/-- The memory of the document's division: the number, the answer's place, the quotient, what is left. -/
structure DInv (N : Nat) (w wr : World) (ah al qh ql rh rl : Int) : Prop where
  a : Box wr N ah al
  z : Box wr (N + 1) 0 0
  q : Box wr (N + 1 + 1) qh ql
  r : Box wr (N + 1 + 1 + 1) rh rl
  below : Below N w wr
  size : N + 1 + 1 + 1 < wr.heap.size

theorem DInv.init (w : World) (ah al : Int) : DInv w.heap.size w ((((w.alloc (.cells #[.int .u64 ah, .int .u64 al] 54)).alloc (.cells #[.int .u64 0, .int .u64 0] 54)).alloc (.cells #[.int .u64 0, .int .u64 0] 54)).alloc (.cells #[.int .u64 0, .int .u64 0] 54)) ah al 0 0 0 0 := by
  refine ⟨(((Box.new w ah al 54).alloc (by simp) _).alloc (by simp; omega) _).alloc (by simp; omega) _, ?_, ?_, ?_, ((((Below.refl _ _).alloc (Nat.le_refl _) _).alloc (by simp) _).alloc (by simp; omega) _).alloc (by simp; omega) _, by simp⟩
  · have := Box.new (w.alloc (.cells #[.int .u64 ah, .int .u64 al] 54)) 0 0 54
    simp only [World.size_alloc] at this
    exact (this.alloc (by simp) _).alloc (by simp) _
  · have := Box.new ((w.alloc (.cells #[.int .u64 ah, .int .u64 al] 54)).alloc (.cells #[.int .u64 0, .int .u64 0] 54)) 0 0 54
    simp only [World.size_alloc] at this
    exact this.alloc (by simp) _
  · have := Box.new (((w.alloc (.cells #[.int .u64 ah, .int .u64 al] 54)).alloc (.cells #[.int .u64 0, .int .u64 0] 54)).alloc (.cells #[.int .u64 0, .int .u64 0] 54)) 0 0 54
    simp only [World.size_alloc] at this
    exact this

set_option maxHeartbeats 4000000 in
set_option maxRecDepth 100000 in
theorem rdivw_any (ah al b : Int) (h1 : Word ah) (h2 : Word al) (h3 : Word b) (hb : 0 < b) (w : World) :
    Calls Tryz.prog 49 #[.agg #[.int .u64 ah, .int .u64 al], .int .u64 b] w fun e w' => e = .returned (.tuple #[.agg #[.int .u64 (hiW (val ah al / b.toNat)), .int .u64 (loW (val ah al / b.toNat))], .int .u64 ((val ah al % b.toNat : Nat) : Int), .int .i64 0]) ∧ Below w.heap.size w w' := by
  have hz : (b == 0) = false := by simp; omega
  have hv := val_lt h1 h2
  have vh := hiW_val h1 h2
  have vl := loW_val h1 h2
  obtain ⟨v, hvv⟩ : ∃ v, val ah al = v := ⟨_, rfl⟩
  rw [hvv] at hv vh vl ⊢
  obtain ⟨d, hd⟩ : ∃ d : Nat, b = (d : Int) := ⟨b.toNat, by omega⟩
  have hd0 : 0 < d := by omega
  have hd1 : d < 18446744073709551616 := by have := h3.2; omega
  have HD : Hid (b = (d : Int)) := hd
  have hdt : b.toNat = d := by omega
  rw [hdt]
  clear hd hdt hvv
  have HV : Hid (hiW v = ah ∧ loW v = al) := ⟨vh, vl⟩
  clear vh vl
  go_enter Tryz.func49, Tryz.ntmps49
  go_wp2
  go_loopw [9] (fun i wr => ∃ k : Nat, i = .int .i64 k ∧ k ≤ 128 ∧ DInv w.heap.size w wr (hiW (v * 2 ^ k % 340282366920938463463374607431768211456)) (loW (v * 2 ^ k % 340282366920938463463374607431768211456)) (hiW (headBits v k / d)) (loW (headBits v k / d)) (hiW (headBits v k % d)) (loW (headBits v k % d))) (fun i _ => 128 - (intOf i).toNat)
  case atStart =>
    refine ⟨0, rfl, by omega, ?_⟩
    rw [Nat.pow_zero, Nat.mul_one, Nat.mod_eq_of_lt hv, HV.out.1, HV.out.2, head_zero hv, Nat.zero_div, Nat.zero_mod, hiW_zero, loW_zero]
    exact DInv.init w ah al
  case round =>
    obtain ⟨k, rfl, hk, I⟩ := hrel
    by_cases c : (k : Int) < 128
    · have hA : v * 2 ^ k % 340282366920938463463374607431768211456 < 340282366920938463463374607431768211456 := Nat.mod_lt _ (by omega)
      have hP := head_lt hv hk
      have hP2 : headBits v k < 170141183460469231731687303715884105728 := Nat.lt_of_lt_of_le hP (Nat.pow_le_pow_right (by omega) (by omega : k ≤ 127))
      have hQ : headBits v k / d < 170141183460469231731687303715884105728 := Nat.lt_of_le_of_lt (Nat.div_le_self _ _) hP2
      have hR : headBits v k % d < d := Nat.mod_lt _ hd0
      have st := head_step (v := v) (k := k) (by omega)
      have qs := quo_step (p := headBits v k) (b := d) (t := v * 2 ^ k % 340282366920938463463374607431768211456 / 170141183460469231731687303715884105728) hd0 (top_bit_01 hA)
      rw [← st] at qs
      have tb := top_bit (v * 2 ^ k % 340282366920938463463374607431768211456)
      have a2 := shl_step v k
      have t01 := top_bit_01 hA
      have HN : Hid (DInv w.heap.size w wr (hiW (v * 2 ^ k % 340282366920938463463374607431768211456)) (loW (v * 2 ^ k % 340282366920938463463374607431768211456)) (hiW (headBits v k / d)) (loW (headBits v k / d)) (hiW (headBits v k % d)) (loW (headBits v k % d))) := I
      clear I hP hP2 st
      obtain ⟨Q', hQ'⟩ : ∃ q, headBits v (k + 1) / d = q := ⟨_, rfl⟩
      obtain ⟨R', hR'⟩ : ∃ r, headBits v (k + 1) % d = r := ⟨_, rfl⟩
      obtain ⟨A', hA'⟩ : ∃ x, v * 2 ^ (k + 1) % 340282366920938463463374607431768211456 = x := ⟨_, rfl⟩
      have HX : Hid (headBits v (k + 1) / d = Q' ∧ headBits v (k + 1) % d = R' ∧ v * 2 ^ (k + 1) % 340282366920938463463374607431768211456 = A') := ⟨hQ', hR', hA'⟩
      rw [hQ', hR'] at qs
      rw [hA'] at a2
      clear hQ' hR' hA'
      generalize v * 2 ^ k % 340282366920938463463374607431768211456 = A at *
      generalize headBits v k / d = Q at *
      generalize headBits v k % d = R at *
      generalize A / 170141183460469231731687303715884105728 = t at *
      obtain ⟨s, hs⟩ : ∃ s, 2 * R + t = s := ⟨_, rfl⟩
      have hsl : s < 340282366920938463463374607431768211456 := by omega
      have e1 : shl (val (hiW R) (loW R)) 1 = 2 * R := by rw [val_hl, shl_one (by omega)]
      have e2 : shl (val (hiW A) (loW A)) 1 = A' := by rw [val_hl]; unfold shl; rw [show (1 : Int).toNat = 1 by rfl]; exact a2
      have e3 : shl (val (hiW Q) (loW Q)) 1 = 2 * Q := by rw [val_hl, shl_one hQ]
      have w1 : Word (hiW R) := hiW_word (by omega)
      have w2 : Word (hiW A) := hiW_word hA
      have w3 : Word (hiW Q) := hiW_word (by omega)
      have L1 := fun W => rleft_any (hiW R) (loW R) 1 w1 (loW_word R) W
      have L2 := fun W => rleft_any (hiW A) (loW A) 1 w2 (loW_word A) W
      have L3 := fun W => rleft_any (hiW Q) (loW Q) 1 w3 (loW_word Q) W
      rw [e1] at L1
      rw [e2] at L2
      rw [e3] at L3
      have o1 : bits .or .u64 (loW (2 * R)) (hiW A / 9223372036854775808) = loW s := by rw [tb, lo_or t01, hs]
      have o2 : hiW (2 * R) = hiW s := by rw [hi_or t01, hs]
      have o3 : bits .or .u64 (loW (2 * Q)) 1 = loW (2 * Q + 1) := lo_or (x := Q) (t := 1) (by omega)
      have o4 : hiW (2 * Q) = hiW (2 * Q + 1) := hi_or (by omega)
      have C1 := fun W => rcmp_any (hiW s) (loW s) 0 b W
      have C2 := fun W => rsub_any (hiW s) (loW s) 0 b W
      have cw := cmp_word (s := s) (b := d) hd1
      have sw := sub_word (s := s) (b := d) hsl hd1
      rw [← HD.out] at cw sw
      rw [hs] at qs
      have I := HN.out
      have sz := I.size
      have z0 : w.heap.size < wr.heap.size := by omega
      have z1 : w.heap.size + 1 < wr.heap.size := by omega
      have z2 : w.heap.size + 1 + 1 < wr.heap.size := by omega
      have Ba := I.a
      have Bz := I.z
      have Bq := I.q
      have Br := I.r
      have a0 := Ba.c0
      have r0 := Br.c0
      have r1 := Br.c1
      clear I tb e1 e2 e3 w1 w2 w3 hsl a2 t01 hA hQ hR
      by_cases cs : d ≤ s
      · obtain ⟨q1, q2⟩ := qs.1 cs
        obtain ⟨s1, s2⟩ := sw cs
        rw [decide_eq_true cs] at cw
        have cw' : 0 ≤ cmp (hiW s) (loW s) 0 b := by simpa using cw
        obtain ⟨cc, hcc⟩ : ∃ cc, cmp (hiW s) (loW s) 0 b = cc := ⟨_, rfl⟩
        rw [hcc] at C1 cw'
        rw [s1, s2] at C2
        have HS : Hid (Q' = 2 * Q + 1 ∧ R' = s - d) := ⟨q1, q2⟩
        have HO : Hid (bits .or .u64 (loW (2 * R)) (hiW A / 9223372036854775808) = loW s) := o1
        have HP : Hid (hiW (2 * R) = hiW s) := o2
        have HQ : Hid (bits .or .u64 (loW (2 * Q)) 1 = loW (2 * Q + 1) ∧ hiW (2 * Q) = hiW (2 * Q + 1)) := ⟨o3, o4⟩
        clear q1 q2 s1 s2 sw qs cw cs hcc hs o1 o2 o3 o4
        go_wp2_with fail
        refine (L1 _).mono ?_
        rintro e wa ⟨rfl, hba⟩
        have sza := hba.size
        have Aa := Ba.below hba (by omega)
        have Za := Bz.below hba (by omega)
        have Qa := Bq.below hba (by omega)
        have Ra := Br.below hba (by omega)
        have aa0 := Aa.c0
        have aa1 := Aa.c1
        have ra0 := Ra.c0
        have ra1 := Ra.c1
        have raf := Ra.fz
        go_wp2_with fail
        refine (L2 _).mono ?_
        rintro e wb ⟨rfl, hbb⟩
        have szb := hbb.size
        simp only [World.size_setCell] at szb
        have Ab := (((Aa.other (by omega)).other (by omega)).other (by omega)).below hbb (by simp only [World.size_setCell]; omega)
        have Zb := (((Za.other (by omega)).other (by omega)).other (by omega)).below hbb (by simp only [World.size_setCell]; omega)
        have Qb := (((Qa.other (by omega)).other (by omega)).other (by omega)).below hbb (by simp only [World.size_setCell]; omega)
        have Rb := ((Ra.both _ _).lo _).below hbb (by simp only [World.size_setCell]; omega)
        have ab0 := Ab.c0
        have ab1 := Ab.c1
        have abf := Ab.fz
        have qb0 := Qb.c0
        have qb1 := Qb.c1
        clear aa0 aa1 ra0 ra1 raf
        go_wp2_with fail
        refine (L3 _).mono ?_
        rintro e wc ⟨rfl, hbc⟩
        have szc := hbc.size
        simp only [World.size_setCell] at szc
        have Ac := (Ab.both _ _).below hbc (by simp only [World.size_setCell]; omega)
        have Zc := ((Zb.other (by omega)).other (by omega)).below hbc (by simp only [World.size_setCell]; omega)
        have Qc := ((Qb.other (by omega)).other (by omega)).below hbc (by simp only [World.size_setCell]; omega)
        have Rc := ((Rb.other (by omega)).other (by omega)).below hbc (by simp only [World.size_setCell]; omega)
        rw [HO.out, HP.out] at Rc
        have qc0 := Qc.c0
        have qc1 := Qc.c1
        have qcf := Qc.fz
        have rc0 := Rc.c0
        have rc1 := Rc.c1
        clear ab0 ab1 abf qb0 qb1
        go_wp2_with fail
        refine (C1 _).mono ?_
        rintro e wd ⟨rfl, hbd⟩
        have szd := hbd.size
        simp only [World.size_setCell] at szd
        have Ad := ((Ac.other (by omega)).other (by omega)).below hbd (by simp only [World.size_setCell]; omega)
        have Zd := ((Zc.other (by omega)).other (by omega)).below hbd (by simp only [World.size_setCell]; omega)
        have Qd := (Qc.both _ _).below hbd (by simp only [World.size_setCell]; omega)
        have Rd := ((Rc.other (by omega)).other (by omega)).below hbd (by simp only [World.size_setCell]; omega)
        have qd0 := Qd.c0
        have qd1 := Qd.c1
        have qdf := Qd.fz
        have rd0 := Rd.c0
        have rd1 := Rd.c1
        have rdf := Rd.fz
        clear qc0 qc1 qcf rc0 rc1
        have bd : Below w.heap.size w wd := by
          refine Below.trans ?_ (hbd.mono (by simp only [World.size_setCell]; omega))
          refine ((Below.trans ?_ (hbc.mono (by simp only [World.size_setCell]; omega))).setCell (p := ⟨w.heap.size + 1 + 1, 0, none⟩) (by show w.heap.size ≤ w.heap.size + 1 + 1; omega) _).setCell (p := ⟨w.heap.size + 1 + 1, 1, none⟩) (by show w.heap.size ≤ w.heap.size + 1 + 1; omega) _
          refine ((Below.trans ?_ (hbb.mono (by simp only [World.size_setCell]; omega))).setCell (p := ⟨w.heap.size, 0, none⟩) (Nat.le_refl _) _).setCell (p := ⟨w.heap.size, 1, none⟩) (Nat.le_refl _) _
          exact (((HN.out.below.trans (hba.mono (by omega))).setCell (by show w.heap.size ≤ w.heap.size + 1 + 1 + 1; omega) _).setCell (by show w.heap.size ≤ w.heap.size + 1 + 1 + 1; omega) _).setCell (by show w.heap.size ≤ w.heap.size + 1 + 1 + 1; omega) _
        go_wp2_with fail
        refine (C2 _).mono ?_
        rintro e wf ⟨rfl, hbf⟩
        have szf := hbf.size
        have Af := Ad.below hbf (by omega)
        have Zf := Zd.below hbf (by omega)
        have Qf := Qd.below hbf (by omega)
        have Rf := Rd.below hbf (by omega)
        have qf0 := Qf.c0
        have qf1 := Qf.c1
        have qff := Qf.fz
        have rf0 := Rf.c0
        have rf1 := Rf.c1
        have rff := Rf.fz
        clear qd0 qd1 qdf rd0 rd1 rdf
        go_wp2
        go_roundw
        case rel =>
          refine ⟨k + 1, by go_num, by omega, ?_⟩
          rw [HX.out.1, HX.out.2.1, HX.out.2.2, HS.out.1, HS.out.2]
          have QQ := (((Qf.other (m := w.heap.size + 1 + 1 + 1) (o := 0) (v := .int .u64 (hiW (s - d))) (by omega)).other (m := w.heap.size + 1 + 1 + 1) (o := 1) (v := .int .u64 (loW (s - d))) (by omega))).lo (bits .or .u64 (loW (2 * Q)) 1)
          rw [HQ.out.1, HQ.out.2] at QQ
          refine ⟨((Af.other (by omega)).other (by omega)).other (by omega), ((Zf.other (by omega)).other (by omega)).other (by omega), ?_, (Rf.both _ _).other (by omega), (((bd.trans (hbf.mono (by omega))).setCell (by show w.heap.size ≤ w.heap.size + 1 + 1 + 1; omega) _).setCell (by show w.heap.size ≤ w.heap.size + 1 + 1 + 1; omega) _).setCell (by show w.heap.size ≤ w.heap.size + 1 + 1; omega) _, by simp only [World.size_setCell]; omega⟩
          first | exact QQ | (rw [HQ.out.1]; exact QQ)
        case measure => simp [intOf]; omega
      · obtain ⟨q1, q2⟩ := qs.2 (by omega)
        rw [decide_eq_false cs] at cw
        have cw' : cmp (hiW s) (loW s) 0 b < 0 := by simpa using cw
        obtain ⟨cc, hcc⟩ : ∃ cc, cmp (hiW s) (loW s) 0 b = cc := ⟨_, rfl⟩
        rw [hcc] at C1 cw'
        have HS : Hid (Q' = 2 * Q ∧ R' = s) := ⟨q1, q2⟩
        have HO : Hid (bits .or .u64 (loW (2 * R)) (hiW A / 9223372036854775808) = loW s) := o1
        have HP : Hid (hiW (2 * R) = hiW s) := o2
        clear q1 q2 sw qs cw cs hcc hs o1 o2 o3 o4
        go_wp2_with fail
        refine (L1 _).mono ?_
        rintro e wa ⟨rfl, hba⟩
        have sza := hba.size
        have Aa := Ba.below hba (by omega)
        have Za := Bz.below hba (by omega)
        have Qa := Bq.below hba (by omega)
        have Ra := Br.below hba (by omega)
        have aa0 := Aa.c0
        have aa1 := Aa.c1
        have ra0 := Ra.c0
        have ra1 := Ra.c1
        have raf := Ra.fz
        go_wp2_with fail
        refine (L2 _).mono ?_
        rintro e wb ⟨rfl, hbb⟩
        have szb := hbb.size
        simp only [World.size_setCell] at szb
        have Ab := (((Aa.other (by omega)).other (by omega)).other (by omega)).below hbb (by simp only [World.size_setCell]; omega)
        have Zb := (((Za.other (by omega)).other (by omega)).other (by omega)).below hbb (by simp only [World.size_setCell]; omega)
        have Qb := (((Qa.other (by omega)).other (by omega)).other (by omega)).below hbb (by simp only [World.size_setCell]; omega)
        have Rb := ((Ra.both _ _).lo _).below hbb (by simp only [World.size_setCell]; omega)
        have ab0 := Ab.c0
        have ab1 := Ab.c1
        have abf := Ab.fz
        have qb0 := Qb.c0
        have qb1 := Qb.c1
        clear aa0 aa1 ra0 ra1 raf
        go_wp2_with fail
        refine (L3 _).mono ?_
        rintro e wc ⟨rfl, hbc⟩
        have szc := hbc.size
        simp only [World.size_setCell] at szc
        have Ac := (Ab.both _ _).below hbc (by simp only [World.size_setCell]; omega)
        have Zc := ((Zb.other (by omega)).other (by omega)).below hbc (by simp only [World.size_setCell]; omega)
        have Qc := ((Qb.other (by omega)).other (by omega)).below hbc (by simp only [World.size_setCell]; omega)
        have Rc := ((Rb.other (by omega)).other (by omega)).below hbc (by simp only [World.size_setCell]; omega)
        rw [HO.out, HP.out] at Rc
        have qc0 := Qc.c0
        have qc1 := Qc.c1
        have qcf := Qc.fz
        have rc0 := Rc.c0
        have rc1 := Rc.c1
        clear ab0 ab1 abf qb0 qb1
        go_wp2_with fail
        refine (C1 _).mono ?_
        rintro e wd ⟨rfl, hbd⟩
        have szd := hbd.size
        simp only [World.size_setCell] at szd
        have Ad := ((Ac.other (by omega)).other (by omega)).below hbd (by simp only [World.size_setCell]; omega)
        have Zd := ((Zc.other (by omega)).other (by omega)).below hbd (by simp only [World.size_setCell]; omega)
        have Qd := (Qc.both _ _).below hbd (by simp only [World.size_setCell]; omega)
        have Rd := ((Rc.other (by omega)).other (by omega)).below hbd (by simp only [World.size_setCell]; omega)
        have qd0 := Qd.c0
        have qd1 := Qd.c1
        have qdf := Qd.fz
        have rd0 := Rd.c0
        have rd1 := Rd.c1
        have rdf := Rd.fz
        clear qc0 qc1 qcf rc0 rc1
        have bd : Below w.heap.size w wd := by
          refine Below.trans ?_ (hbd.mono (by simp only [World.size_setCell]; omega))
          refine ((Below.trans ?_ (hbc.mono (by simp only [World.size_setCell]; omega))).setCell (p := ⟨w.heap.size + 1 + 1, 0, none⟩) (by show w.heap.size ≤ w.heap.size + 1 + 1; omega) _).setCell (p := ⟨w.heap.size + 1 + 1, 1, none⟩) (by show w.heap.size ≤ w.heap.size + 1 + 1; omega) _
          refine ((Below.trans ?_ (hbb.mono (by simp only [World.size_setCell]; omega))).setCell (p := ⟨w.heap.size, 0, none⟩) (Nat.le_refl _) _).setCell (p := ⟨w.heap.size, 1, none⟩) (Nat.le_refl _) _
          exact (((HN.out.below.trans (hba.mono (by omega))).setCell (by show w.heap.size ≤ w.heap.size + 1 + 1 + 1; omega) _).setCell (by show w.heap.size ≤ w.heap.size + 1 + 1 + 1; omega) _).setCell (by show w.heap.size ≤ w.heap.size + 1 + 1 + 1; omega) _
        go_wp2
        go_roundw
        case rel =>
          refine ⟨k + 1, by go_num, by omega, ?_⟩
          rw [HX.out.1, HX.out.2.1, HX.out.2.2, HS.out.1, HS.out.2]
          exact ⟨Ad, Zd, Qd, Rd, bd, by omega⟩
        case measure => simp [intOf]; omega
    · have hk2 : k = 128 := by omega
      subst hk2
      rw [head_all] at I
      have c' : decide (((128 : Nat) : Int) < 128) = false := by decide
      clear c
      have Ba := I.a
      have Bz := I.z
      have Bq := I.q
      have Br := I.r
      have sz := I.size
      have q0 := Bq.c0
      have q1 := Bq.c1
      have r0 := Br.c0
      have r1 := Br.c1
      have x0 := Bz.c0
      have x1 := Bz.c1
      have xf := Bz.fz
      have hm : loW (v % d) = ((v % d : Nat) : Int) := lo_small (Nat.lt_trans (Nat.mod_lt _ hd0) hd1)
      have HM : Hid (loW (v % d) = ((v % d : Nat) : Int)) := hm
      have HI : Hid (Below w.heap.size w wr) := I.below
      clear hm I
      generalize loW (v % d) = rr at *
      go_wp2
      go_region
      all_goals
        go_wp2
        refine bodyPost_ret (v := .tuple #[.agg #[.int .u64 (hiW (v / d)), .int .u64 (loW (v / d))], .int .u64 rr, .int .i64 0]) (by simp [results, Tryz.results49, go_sem, x0, x1]) rfl ⟨by rw [HM.out], ?_⟩
        first | exact ((HI.out.setCell (by show w.heap.size ≤ w.heap.size + 1; omega) _).setCell (by show w.heap.size ≤ w.heap.size + 1; omega) _).drew | exact ((HI.out.drew.setCell (by show w.heap.size ≤ w.heap.size + 1; omega) _).setCell (by show w.heap.size ≤ w.heap.size + 1; omega) _)

end Go.Proofs.YtghbngjjdeameaaGreatDoor
