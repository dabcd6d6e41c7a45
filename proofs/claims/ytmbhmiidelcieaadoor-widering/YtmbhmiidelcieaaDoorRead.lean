/-
  What a call of wide.Read answers, for every text: the number, or which error.
-/
import Derived.Test.YtmbhmiidelcieaaDoorNum
import Derived.Test.YtmbhmiidelcieaaDoorMul
import Derived.Deep.RegionHeld3
namespace Go.Proofs.YtmbhmiidelcieaaDoor
open Go.RowKit

theorem w10' : Word 10 := ⟨by omega, by omega⟩

/-- What the memory of wide.Read holds: the place of the answer, and a box with the number so far. -/
structure RInv (N : Nat) (w wr : World) (h l : Int) : Prop where
  res0 : wr.cell? ⟨N, 0, none⟩ = some (.int .u64 0)
  res1 : wr.cell? ⟨N, 1, none⟩ = some (.int .u64 0)
  fz0 : ∀ o, wr.frozen? ⟨N, o, none⟩ = false
  box0 : wr.cell? ⟨N + 1, 0, none⟩ = some (.int .u64 h)
  box1 : wr.cell? ⟨N + 1, 1, none⟩ = some (.int .u64 l)
  fz1 : ∀ o, wr.frozen? ⟨N + 1, o, none⟩ = false
  below : Below N w wr
  size : N + 2 ≤ wr.heap.size

theorem RInv.init (w : World) : RInv w.heap.size w ((w.alloc (.cells #[.int .u64 0, .int .u64 0] 24)).alloc (.cells #[.int .u64 0, .int .u64 0] 24)) 0 0 := by
  refine ⟨by simp, by simp, ?_, by simp, by simp, ?_, ((Below.refl _ _).alloc (Nat.le_refl _) _).alloc (by simp) _, by simp⟩
  · intro o; rw [frozen?_alloc_cells]; exact World.frozen?_alloc_new _ _ _ _
  · intro o; exact World.frozen?_alloc_at _ _ _ _ (by simp)

theorem RInv.carry {N : Nat} {w wr wa : World} {h l : Int} (I : RInv N w wr h l) (hb : Below wr.heap.size wr wa) : RInv N w wa h l := by
  have hs := I.size
  have c : ∀ b o, b < wr.heap.size → wa.cell? ⟨b, o, none⟩ = wr.cell? ⟨b, o, none⟩ := fun b o hh => hb.cell (p := ⟨b, o, none⟩) hh
  have f : ∀ b o, b < wr.heap.size → wa.frozen? ⟨b, o, none⟩ = wr.frozen? ⟨b, o, none⟩ := fun b o hh => hb.frozen (p := ⟨b, o, none⟩) hh
  exact ⟨(c _ _ (by omega)).trans I.res0, (c _ _ (by omega)).trans I.res1, fun o => (f _ _ (by omega)).trans (I.fz0 o), (c _ _ (by omega)).trans I.box0, (c _ _ (by omega)).trans I.box1, fun o => (f _ _ (by omega)).trans (I.fz1 o),
    I.below.trans (hb.mono (by omega)), by have := hb.size; omega⟩

theorem RInv.set {N : Nat} {w wr : World} {h l : Int} (I : RInv N w wr h l) (h' l' : Int) : RInv N w ((wr.setCell ⟨N + 1, 0, none⟩ (.int .u64 h')).setCell ⟨N + 1, 1, none⟩ (.int .u64 l')) h' l' := by
  refine ⟨?_, ?_, ?_, ?_, ?_, ?_, ?_, ?_⟩
  · rw [World.cell?_setCell_other _ _ _ _ (by simp), World.cell?_setCell_other _ _ _ _ (by simp)]; exact I.res0
  · rw [World.cell?_setCell_other _ _ _ _ (by simp), World.cell?_setCell_other _ _ _ _ (by simp)]; exact I.res1
  · intro o; simp only [World.frozen?_setCell]; exact I.fz0 o
  · rw [World.cell?_setCell_other _ _ _ _ (by simp)]; exact World.cell?_setCell_same _ _ _ I.box0
  · exact World.cell?_setCell_same _ _ _ ((World.cell?_setCell_other _ _ _ _ (by simp)).trans I.box1)
  · intro o; simp only [World.frozen?_setCell]; exact I.fz1 o
  · exact (I.below.setCell (Nat.le_succ _) _).setCell (Nat.le_succ _) _
  · simp only [World.size_setCell]; exact I.size

theorem RInv.other {N : Nat} {w wr : World} {h l : Int} (I : RInv N w wr h l) (b o : Nat) (v : Value) (hb : N + 2 ≤ b) : RInv N w (wr.setCell ⟨b, o, none⟩ v) h l := by
  have ne0 : ∀ o', (⟨b, o, none⟩ : Addr) ≠ ⟨N, o', none⟩ := fun o' e => by have q : b = N := congrArg Addr.block e; omega
  have ne1 : ∀ o', (⟨b, o, none⟩ : Addr) ≠ ⟨N + 1, o', none⟩ := fun o' e => by have q : b = N + 1 := congrArg Addr.block e; omega
  exact ⟨(World.cell?_setCell_other _ _ _ _ (ne0 _)).trans I.res0, (World.cell?_setCell_other _ _ _ _ (ne0 _)).trans I.res1, fun o => by rw [World.frozen?_setCell]; exact I.fz0 o,
    (World.cell?_setCell_other _ _ _ _ (ne1 _)).trans I.box0, (World.cell?_setCell_other _ _ _ _ (ne1 _)).trans I.box1, fun o => by rw [World.frozen?_setCell]; exact I.fz1 o,
    I.below.setCell (by show N ≤ b; omega) _, by rw [World.size_setCell]; exact I.size⟩

set_option maxHeartbeats 1000000 in
theorem wread_bad (s : ByteArray) (hs : s.size ≤ maxLen) (hb : isNumB s = false) (w : World) :
    Calls Tryd.prog 19 #[.string s] w fun e w' => e = .returned (.tuple #[.agg #[.int .u64 0, .int .u64 0], .iface 55 (.int .i64 3)]) ∧ Below w.heap.size w w' := by
  go_enter Tryd.func19, Tryd.ntmps19
  go_wp2_with (go_at_call 35; refine (wisnum_any s hs _).mono ?_; rintro e w' ⟨rfl, rfl⟩)
  refine bodyPost_ret (v := .tuple #[.agg #[.int .u64 0, .int .u64 0], .iface 55 (.int .i64 3)]) (by simp [results, Tryd.results19, go_sem]) rfl ⟨rfl, (Below.refl _ _).alloc (Nat.le_refl _) _⟩

set_option maxHeartbeats 2000000 in
theorem wread_num (s : ByteArray) (hs : s.size ≤ maxLen) (hb : isNumB s = true) (w : World) :
    Calls Tryd.prog 19 #[.string s] w fun e w' => ((num s s.size < 340282366920938463463374607431768211456 ∧ e = .returned (.tuple #[.agg #[.int .u64 (hiW (num s s.size)), .int .u64 (loW (num s s.size))], .nilIface])) ∨
      (340282366920938463463374607431768211456 ≤ num s s.size ∧ e = .returned (.tuple #[.agg #[.int .u64 0, .int .u64 0], .iface 55 (.int .i64 4)]))) ∧ Below w.heap.size w w' := by
  have hN := isNum_of hb
  have HN : Hid (isNum s) := hN
  clear hN
  have hs' := hs
  unfold maxLen at hs'
  go_enter Tryd.func19, Tryd.ntmps19
  go_wp2_with (go_at_call 35; refine (wisnum_any s hs _).mono ?_; rintro e w' ⟨rfl, rfl⟩)
  go_loopw [17] (fun i wr => ∃ k : Nat, k ≤ s.size ∧ i = .int .i64 k ∧ num s k < 340282366920938463463374607431768211456 ∧ RInv w.heap.size w wr (hiW (num s k)) (loW (num s k))) (fun i _ => s.size - (intOf i).toNat)
  case atStart => exact ⟨0, Nat.zero_le _, rfl, by show (0 : Nat) < _; omega, by rw [show num s 0 = 0 from rfl, hiW_zero, loW_zero]; exact RInv.init w⟩
  case round =>
    obtain ⟨k, hk, rfl, hv, I⟩ := hrel
    have g1 : Word (hiW (num s k)) := hiW_word hv
    have g2 := loW_word (num s k)
    have vh := val_hl (num s k)
    obtain ⟨x, hx⟩ : ∃ x, hiW (num s k) = x := ⟨_, rfl⟩
    obtain ⟨y, hy⟩ : ∃ y, loW (num s k) = y := ⟨_, rfl⟩
    have HX : Hid (hiW (num s k) = x ∧ loW (num s k) = y ∧ val x y = num s k ∧ num s k < 340282366920938463463374607431768211456) := ⟨hx, hy, by rw [← hx, ← hy]; exact vh, hv⟩
    rw [hx, hy] at I
    rw [hx] at g1
    rw [hy] at g2
    clear hx hy vh hv
    have b0 := I.box0
    have b1 := I.box1
    have f0 := I.fz0
    have f1 := I.fz1
    have r0 := I.res0
    have r1 := I.res1
    have z0 := I.size
    have p0 : w.heap.size < wr.heap.size := by omega
    have p1 : w.heap.size + 1 < wr.heap.size := by omega
    have HI : Hid (RInv w.heap.size w wr x y) := I
    clear I
    by_cases hlt : k < s.size
    · have dg := HN.out.2.1 k hlt
      have eb := byteAt_eq s k hlt
      obtain ⟨d, hd⟩ : ∃ d : Nat, byteAt s k = 48 + d := ⟨byteAt s k - 48, by omega⟩
      have hd9 : d ≤ 9 := by omega
      have e1 : ((s[k]'hlt).toNat : Int) = 48 + (d : Int) := by omega
      have st := read_step g1 g2 hd9
      have nx : num s (k + 1) = val x y * 10 + d := by show num s k * 10 + (byteAt s k - 48) = _; rw [HX.out.2.2.1]; omega
      rw [← nx] at st
      have ST := (show Hid _ from st)
      have hwd : Word (d : Int) := ⟨by omega, by omega⟩
      have hm1 := m3Mid_word x y 10
      have hm2 := mLo_word y 10
      clear st dg eb hd nx
      have w00 : Word 0 := ⟨by omega, by omega⟩
      have hlt' : (k : Int) < (s.size : Int) := by omega
      have e2 : IntKind.u8.wrap (48 + (d : Int) - 48) = (d : Int) := by rw [show (48 + (d : Int) - 48) = (d : Int) by omega]; simp [IntKind.wrap, IntKind.signed, IntKind.bits]; omega
      have e3 : IntKind.u64.wrap (d : Int) = (d : Int) := by rw [IntKind.wrap_u64]; omega
      by_cases c : num s (k + 1) < 340282366920938463463374607431768211456
      · obtain ⟨t0, t1, t2, t3⟩ := ST.out.1 c
        have HC : Hid (num s (k + 1) < 340282366920938463463374607431768211456 ∧ sHi (m3Mid x y 10) (mLo y 10) 0 (d : Int) = hiW (num s (k + 1)) ∧ sLo (mLo y 10) (d : Int) = loW (num s (k + 1))) := ⟨c, t2, t3⟩
        clear c t2 t3 ST
        go_wp2_with (go_at_call 25; refine (wmulw_any x y 10 g1 g2 w10' _).mono ?_; rintro e wa ⟨rfl, hba⟩; obtain ⟨hca, hfa⟩ := bcell hba; have sa := hba.size; have q0 : w.heap.size < wa.heap.size := (by omega); have q1 : w.heap.size + 1 < wa.heap.size := (by omega))
        go_region_held3 (fun w' => w'.cell? ⟨wa.heap.size, 0, none⟩ = some (.int .u64 (m3Mid x y 10)) ∧ w'.cell? ⟨wa.heap.size, 1, none⟩ = some (.int .u64 (mLo y 10))) (simp [*, go_sem, World.cell?_alloc_past])
          (first | (go_at_call 23; refine (wadd_any _ _ _ (d : Int) hm1 hm2 w00 hwd _).mono ?_; rintro e wb ⟨rfl, hbb⟩; obtain ⟨hcb, hfb⟩ := bcell hbb; have sb := hbb.size; simp at hcb hfb sb; have q2 : wa.heap.size < wb.heap.size := (by omega); have q3 : w.heap.size + 1 < wb.heap.size := (by omega); have q4 : w.heap.size < wb.heap.size := (by omega)))
        all_goals
          have J : RInv w.heap.size w wb x y := by
            first
              | exact ((HI.out.carry hba).carry ((Below.refl _ _).alloc (Nat.le_refl _) _).drew).carry hbb
              | exact ((HI.out.carry hba).carry (((Below.refl _ _).alloc (Nat.le_refl _) _).alloc (by simp) _).drew).carry hbb
          try (have c80 : wb.cell? ⟨wa.heap.size + 1, 0, none⟩ = some (.int .u64 0) := (by rw [hcb _ _ (by omega)]; simp))
          try (have c81 : wb.cell? ⟨wa.heap.size + 1, 1, none⟩ = some (.int .u64 0) := (by rw [hcb _ _ (by omega)]; simp))
          try (have c8f : ∀ o, wb.frozen? ⟨wa.heap.size + 1, o, none⟩ = false := (by intro o; rw [hfb _ _ (by omega)]; exact World.frozen?_alloc_at _ _ _ _ (by simp)))
          clear b0 b1 f0 f1 r0 r1 hca hfa hcb hfb
          have b0 := J.box0
          have b1 := J.box1
          have f0 := J.fz0
          have f1 := J.fz1
          have r0 := J.res0
          have r1 := J.res1
          have HJ : Hid (RInv w.heap.size w wb x y) := J
          clear J HI
          go_wp2
          go_roundw
          case rel =>
            refine ⟨k + 1, by omega, by go_num, HC.out.1, ?_⟩
            rw [← HC.out.2.1, ← HC.out.2.2]
            first
              | exact (HJ.out.set _ _).carry ((Below.refl _ _).alloc (Nat.le_refl _) _)
              | exact ((HJ.out.other _ _ _ (by omega)).other _ _ _ (by omega)).set _ _
          case measure => simp [intOf]; omega
      · have hge : 340282366920938463463374607431768211456 ≤ num s s.size := Nat.le_trans (by omega) (num_mono s (show k + 1 ≤ s.size by omega))
        have HG : Hid (340282366920938463463374607431768211456 ≤ num s s.size) := hge
        have cc := ST.out.2 (by omega)
        clear c hge ST
        rcases cc with t0 | ⟨t0, t1⟩
        · have t0' : (m3Top x y 10 != 0) = true := by simpa using t0
          go_wp2_with (go_at_call 25; refine (wmulw_any x y 10 g1 g2 w10' _).mono ?_; rintro e wa ⟨rfl, hba⟩; obtain ⟨hca, hfa⟩ := bcell hba; have sa := hba.size; have q0 : w.heap.size < wa.heap.size := (by omega); have q1 : w.heap.size + 1 < wa.heap.size := (by omega))
          go_region_held3 (fun w' => w'.cell? ⟨wa.heap.size, 0, none⟩ = some (.int .u64 (m3Mid x y 10)) ∧ w'.cell? ⟨wa.heap.size, 1, none⟩ = some (.int .u64 (mLo y 10))) (simp [*, go_sem, World.cell?_alloc_past])
            (first | (go_at_call 23; refine (wadd_any _ _ _ (d : Int) hm1 hm2 w00 hwd _).mono ?_; rintro e wb ⟨rfl, hbb⟩; obtain ⟨hcb, hfb⟩ := bcell hbb; have sb := hbb.size; simp at hcb hfb sb; have q2 : wa.heap.size < wb.heap.size := (by omega); have q3 : w.heap.size + 1 < wb.heap.size := (by omega); have q4 : w.heap.size < wb.heap.size := (by omega)))
          all_goals
            have J : RInv w.heap.size w wb x y := by
              first
                | exact ((HI.out.carry hba).carry ((Below.refl _ _).alloc (Nat.le_refl _) _).drew).carry hbb
                | exact ((HI.out.carry hba).carry (((Below.refl _ _).alloc (Nat.le_refl _) _).alloc (by simp) _).drew).carry hbb
            try (have c80 : wb.cell? ⟨wa.heap.size + 1, 0, none⟩ = some (.int .u64 0) := (by rw [hcb _ _ (by omega)]; simp))
            try (have c81 : wb.cell? ⟨wa.heap.size + 1, 1, none⟩ = some (.int .u64 0) := (by rw [hcb _ _ (by omega)]; simp))
            try (have c8f : ∀ o, wb.frozen? ⟨wa.heap.size + 1, o, none⟩ = false := (by intro o; rw [hfb _ _ (by omega)]; exact World.frozen?_alloc_at _ _ _ _ (by simp)))
            clear b0 b1 f0 f1 r0 r1 hca hfa hcb hfb
            have b0 := J.box0
            have b1 := J.box1
            have f0 := J.fz0
            have f1 := J.fz1
            have r0 := J.res0
            have r1 := J.res1
            have HJ : Hid (RInv w.heap.size w wb x y) := J
            clear J HI
            go_wp2
            refine bodyPost_ret (v := .tuple #[.agg #[.int .u64 0, .int .u64 0], .iface 55 (.int .i64 4)]) (by simp [results, Tryd.results19, go_sem, r0, r1, q4]) rfl ⟨Or.inr ⟨HG.out, rfl⟩, ?_⟩
            first
              | exact ((HJ.out.below.setCell (Nat.le_refl _) _).setCell (Nat.le_refl _) _).alloc (by simp; omega) _
              | exact (((HJ.out.below.setCell (by simp; omega) _).setCell (by simp; omega) _).setCell (Nat.le_refl _) _).setCell (Nat.le_refl _) _
        · have t0' : m3Top x y 10 = 0 := by simpa using t0
          clear t0
          go_wp2_with (go_at_call 25; refine (wmulw_any x y 10 g1 g2 w10' _).mono ?_; rintro e wa ⟨rfl, hba⟩; obtain ⟨hca, hfa⟩ := bcell hba; have sa := hba.size; have q0 : w.heap.size < wa.heap.size := (by omega); have q1 : w.heap.size + 1 < wa.heap.size := (by omega))
          go_region_held3 (fun w' => w'.cell? ⟨wa.heap.size, 0, none⟩ = some (.int .u64 (m3Mid x y 10)) ∧ w'.cell? ⟨wa.heap.size, 1, none⟩ = some (.int .u64 (mLo y 10))) (simp [*, go_sem, World.cell?_alloc_past])
            (first | (go_at_call 23; refine (wadd_any _ _ _ (d : Int) hm1 hm2 w00 hwd _).mono ?_; rintro e wb ⟨rfl, hbb⟩; obtain ⟨hcb, hfb⟩ := bcell hbb; have sb := hbb.size; simp at hcb hfb sb; have q2 : wa.heap.size < wb.heap.size := (by omega); have q3 : w.heap.size + 1 < wb.heap.size := (by omega); have q4 : w.heap.size < wb.heap.size := (by omega)))
          all_goals
            have J : RInv w.heap.size w wb x y := by
              first
                | exact ((HI.out.carry hba).carry ((Below.refl _ _).alloc (Nat.le_refl _) _).drew).carry hbb
                | exact ((HI.out.carry hba).carry (((Below.refl _ _).alloc (Nat.le_refl _) _).alloc (by simp) _).drew).carry hbb
            try (have c80 : wb.cell? ⟨wa.heap.size + 1, 0, none⟩ = some (.int .u64 0) := (by rw [hcb _ _ (by omega)]; simp))
            try (have c81 : wb.cell? ⟨wa.heap.size + 1, 1, none⟩ = some (.int .u64 0) := (by rw [hcb _ _ (by omega)]; simp))
            try (have c8f : ∀ o, wb.frozen? ⟨wa.heap.size + 1, o, none⟩ = false := (by intro o; rw [hfb _ _ (by omega)]; exact World.frozen?_alloc_at _ _ _ _ (by simp)))
            clear b0 b1 f0 f1 r0 r1 hca hfa hcb hfb
            have b0 := J.box0
            have b1 := J.box1
            have f0 := J.fz0
            have f1 := J.fz1
            have r0 := J.res0
            have r1 := J.res1
            have HJ : Hid (RInv w.heap.size w wb x y) := J
            clear J HI
            go_wp2
            refine bodyPost_ret (v := .tuple #[.agg #[.int .u64 0, .int .u64 0], .iface 55 (.int .i64 4)]) (by simp [results, Tryd.results19, go_sem, r0, r1, q4]) rfl ⟨Or.inr ⟨HG.out, rfl⟩, ?_⟩
            first
              | exact ((HJ.out.below.setCell (Nat.le_refl _) _).setCell (Nat.le_refl _) _).alloc (by simp; omega) _
              | exact (((HJ.out.below.setCell (by simp; omega) _).setCell (by simp; omega) _).setCell (Nat.le_refl _) _).setCell (Nat.le_refl _) _
    · have ek : k = s.size := by omega
      have HE : Hid (x = hiW (num s s.size) ∧ y = loW (num s s.size)) := by rw [← ek]; exact ⟨HX.out.1.symm, HX.out.2.1.symm⟩
      have HV : Hid (num s s.size < 340282366920938463463374607431768211456) := by rw [← ek]; exact HX.out.2.2.2
      clear ek
      go_wp2
      refine bodyPost_ret (v := .tuple #[.agg #[.int .u64 x, .int .u64 y], .nilIface]) (by simp [results, Tryd.results19, go_sem, r0, r1]) rfl ⟨Or.inl ⟨HV.out, by rw [HE.out.1, HE.out.2]⟩, (HI.out.below.setCell (Nat.le_refl _) _).setCell (Nat.le_refl _) _⟩

end Go.Proofs.YtmbhmiidelcieaaDoor
