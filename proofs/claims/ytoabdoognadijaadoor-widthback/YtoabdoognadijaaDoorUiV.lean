/-
  The document's value: the number of a text's digits, over numbers of two words.
-/
import Derived.Test.YtoabdoognadijaaDoorUiQ
import Derived.Test.YtoabdoognadijaaDoorUiW
import Derived.Deep.RegionHeld3
namespace Go.Proofs.YtoabdoognadijaaDoor
open Go.RowKit

theorem w00 : Word 0 := ⟨by omega, by omega⟩
theorem m3Mid_w (h l b : Int) : Word (m3Mid h l b) := by unfold Word m3Mid a3Lo; omega
theorem mul_step {v b d : Nat} (hv : v < 18446744073709551616) (h2 : b ≤ 36) (hd : d < 36) :
    (v * b + d < 18446744073709551616 → sHi (m3Mid 0 (v : Int) (b : Int)) (mLo (v : Int) (b : Int)) 0 (d : Int) = 0 ∧ sLo (mLo (v : Int) (b : Int)) (d : Int) = ((v * b + d : Nat) : Int)) ∧
    (¬ v * b + d < 18446744073709551616 → sHi (m3Mid 0 (v : Int) (b : Int)) (mLo (v : Int) (b : Int)) 0 (d : Int) ≠ 0) := by
  have hp : v * b ≤ 18446744073709551615 * 36 := Nat.mul_le_mul (by omega) h2
  have e : (v : Int) * (b : Int) = ((v * b : Nat) : Int) := by rw [Int.natCast_mul]
  unfold sHi sLo m3Mid mLo mHi a3C a3Lo
  rw [e, Int.zero_mul]
  generalize v * b = p at *
  constructor
  · intro h
    constructor <;> omega
  · intro h
    omega
theorem okc_dig {c : UInt8} (h : okc c = true) (hne : ¬ (c.toNat : Int) = 95) : dv c.toNat < 36 := by
  rcases of_decide_eq_true h with q | q
  · exact absurd (by rw [q]; rfl) hne
  · exact q
theorem mem_at (s : ByteArray) {k : Nat} (h : k < s.size) : (s[k]'h) ∈ s.data.toList := by
  have : (s[k]'h) = s.data.toList[k]'(by simpa using h) := by rfl
  rw [this]; exact List.getElem_mem _
/-- What it answers. -/
def rvV (n : Nat) : Value := if n < 18446744073709551616 then .tuple #[.int .u64 (n : Int), .bool true] else .tuple #[.int .u64 18446744073709551615, .bool false]
theorem rvV_in {n : Nat} (h : n < 18446744073709551616) : rvV n = .tuple #[.int .u64 (n : Int), .bool true] := by unfold rvV; rw [if_pos h]
theorem rvV_out {n : Nat} (h : ¬ n < 18446744073709551616) : rvV n = .tuple #[.int .u64 18446744073709551615, .bool false] := by unfold rvV; rw [if_neg h]
/-- The box with the number so far. -/
structure VInv (N : Nat) (w wr : World) (v : Nat) : Prop where
  box0 : wr.cell? ⟨N, 0, none⟩ = some (.int .u64 0)
  box1 : wr.cell? ⟨N, 1, none⟩ = some (.int .u64 (v : Int))
  fz : ∀ o, wr.frozen? ⟨N, o, none⟩ = false
  below : Below N w wr
  size : N + 1 ≤ wr.heap.size
theorem VInv.init (w : World) : VInv w.heap.size w (w.alloc (.cells #[.int .u64 0, .int .u64 0] 132)) 0 :=
  ⟨by simp, by simp, fun o => World.frozen?_alloc_new _ _ _ _, (Below.refl _ _).alloc (Nat.le_refl _) _, by simp⟩
theorem VInv.carry {N : Nat} {w wr wa : World} {v : Nat} (I : VInv N w wr v) (hb : Below wr.heap.size wr wa) : VInv N w wa v := by
  have hs := I.size
  have c : ∀ b o, b < wr.heap.size → wa.cell? ⟨b, o, none⟩ = wr.cell? ⟨b, o, none⟩ := fun b o hh => hb.cell (p := ⟨b, o, none⟩) hh
  have f : ∀ b o, b < wr.heap.size → wa.frozen? ⟨b, o, none⟩ = wr.frozen? ⟨b, o, none⟩ := fun b o hh => hb.frozen (p := ⟨b, o, none⟩) hh
  exact ⟨(c _ _ (by omega)).trans I.box0, (c _ _ (by omega)).trans I.box1, fun o => (f _ _ (by omega)).trans (I.fz o), I.below.trans (hb.mono (by omega)), by have := hb.size; omega⟩
theorem VInv.set {N : Nat} {w wr : World} {v : Nat} (I : VInv N w wr v) (v' : Nat) (x : Int) (hx : x = (v' : Int) := by rfl) : VInv N w ((wr.setCell ⟨N, 0, none⟩ (.int .u64 0)).setCell ⟨N, 1, none⟩ (.int .u64 x)) v' := by
  subst hx
  refine ⟨?_, ?_, ?_, ?_, ?_⟩
  · rw [World.cell?_setCell_other _ _ _ _ (by simp)]; exact World.cell?_setCell_same _ _ _ I.box0
  · exact World.cell?_setCell_same _ _ _ ((World.cell?_setCell_other _ _ _ _ (by simp)).trans I.box1)
  · intro o; simp only [World.frozen?_setCell]; exact I.fz o
  · exact (I.below.setCell (Nat.le_refl _) _).setCell (Nat.le_refl _) _
  · simp only [World.size_setCell]; exact I.size
theorem VInv.other {N : Nat} {w wr : World} {v : Nat} (I : VInv N w wr v) (b o : Nat) (x : Value) (hb : N + 1 ≤ b) : VInv N w (wr.setCell ⟨b, o, none⟩ x) v := by
  have ne0 : ∀ o', (⟨b, o, none⟩ : Addr) ≠ ⟨N, o', none⟩ := fun o' e => by have q : b = N := congrArg Addr.block e; omega
  exact ⟨(World.cell?_setCell_other _ _ _ _ (ne0 _)).trans I.box0, (World.cell?_setCell_other _ _ _ _ (ne0 _)).trans I.box1, fun o => by rw [World.frozen?_setCell]; exact I.fz o, I.below.setCell (by show N ≤ b; omega) _, by rw [World.size_setCell]; exact I.size⟩

set_option maxRecDepth 100000 in
set_option maxHeartbeats 4000000 in
theorem rval_base (s : ByteArray) (hs : s.size ≤ 9223372036854775806) (b : Nat) (h1 : 2 ≤ b) (h2 : b ≤ 36) (hok : ∀ c ∈ s.data.toList, okc c = true) (w : World) :
    Calls Tryd.prog 55 #[.string s, .int .i64 (b : Int)] w fun e w' => e = .returned (rvV (av b 0 s.data.toList)) ∧ Below w.heap.size w w' := by
  obtain ⟨V, hV⟩ : ∃ V, V = av b 0 s.data.toList := ⟨_, rfl⟩
  rw [← hV]
  have HV : Hid (V = av b 0 s.data.toList) := hV
  have HOK : Hid (∀ c ∈ s.data.toList, okc c = true) := hok
  have hbz : ((b : Int) == 0) = false := beq_eq_false_iff_ne.mpr (by omega)
  clear hV hok
  go_enter Tryd.func55, Tryd.ntmps55
  go_wp2
  go_loopw [9] (fun iv wr => ∃ k v : Nat, iv = .int .i64 (k : Int) ∧ k ≤ s.size ∧ v < 18446744073709551616 ∧ Hid (V = av b v (s.data.toList.drop k)) ∧ VInv w.heap.size w wr v) (fun iv _ => s.size - (intOf iv).toNat)
  case atStart => exact ⟨0, 0, rfl, Nat.zero_le _, by omega, by (show V = _; rw [List.drop_zero, HV.out]), VInv.init w⟩
  case round =>
    clear HV
    obtain ⟨k, v, rfl, hk, hv, HI, I⟩ := hrel
    have b0 := I.box0
    have b1 := I.box1
    have f0 := I.fz
    have z0 := I.size
    have p0 : w.heap.size < wr.heap.size := by omega
    have HV : Hid (VInv w.heap.size w wr v) := I
    clear I
    by_cases hlt : k < s.size
    · have HDR : Hid (s.data.toList.drop k = (s[k]'hlt) :: s.data.toList.drop (k + 1)) := drop_at s hlt
      have hlt' : (k : Int) < (s.size : Int) := by omega
      have hokc := HOK.out _ (mem_at s hlt)
      by_cases q : ((s[k]'hlt).toNat : Int) = 95
      · have HS : Hid (V = av b v (s.data.toList.drop (k + 1))) := by
          show V = _
          rw [HI.out, HDR.out, av_cons, avs_no (by rw [show (s[k]'hlt).toNat = 95 by omega]; decide)]
        clear HI HDR hokc b0 b1 f0
        go_wp2
        go_roundw
        case rel => exact ⟨k + 1, v, by go_num, by omega, hv, HS, HV.out⟩
        case measure => simp [intOf] <;> omega
      · have q' : (((s[k]'hlt).toNat : Int) == 95) = false := beq_eq_false_iff_ne.mpr q
        have hd : dv (s[k]'hlt).toNat < 36 := okc_dig hokc q
        have HS : Hid (V = av b (v * b + dv (s[k]'hlt).toNat) (s.data.toList.drop (k + 1))) := by
          show V = _
          rw [HI.out, HDR.out, av_cons, avs_yes hd]
        have DC := rdig_any (s[k]'hlt).toNat (UInt8.toNat_lt _)
        clear HI HDR hokc
        generalize dv (s[k]'hlt).toNat = d at *
        have ST := mul_step (v := v) (b := b) (d := d) hv (by omega) hd
        have wv : Word (v : Int) := ⟨by omega, by omega⟩
        have wb' : Word (b : Int) := ⟨by omega, by omega⟩
        have hm1 := m3Mid_w 0 (v : Int) (b : Int)
        have hm2 := mLo_word (v : Int) (b : Int)
        have hwd : Word (d : Int) := ⟨by omega, by omega⟩
        have MW := fun W => rmulw_any 0 (v : Int) (b : Int) w00 wv wb' W
        obtain ⟨TP, hTP⟩ : ∃ x, m3Top 0 (v : Int) (b : Int) = x := ⟨_, rfl⟩
        obtain ⟨M, hM⟩ : ∃ x, m3Mid 0 (v : Int) (b : Int) = x := ⟨_, rfl⟩
        obtain ⟨L, hL⟩ : ∃ x, mLo (v : Int) (b : Int) = x := ⟨_, rfl⟩
        rw [hTP, hM, hL] at MW
        rw [hM] at ST hm1
        rw [hL] at ST hm2
        clear hTP hM hL
        have AD := fun W => radd_any M L 0 (d : Int) hm1 hm2 w00 hwd W
        obtain ⟨H, hH⟩ : ∃ x, sHi M L 0 (d : Int) = x := ⟨_, rfl⟩
        obtain ⟨Z, hZ⟩ : ∃ x, sLo L (d : Int) = x := ⟨_, rfl⟩
        generalize sOv M L 0 (d : Int) = OV at *
        rw [hH] at ST AD
        rw [hZ] at ST AD
        clear hH hZ hm1 hm2
        have u1 : IntKind.u64.wrap (b : Int) = (b : Int) := by rw [IntKind.wrap_u64]; omega
        have u2 : IntKind.u64.wrap (d : Int) = (d : Int) := by rw [IntKind.wrap_u64]; omega
        have HVV := HV
        by_cases c : v * b + d < 18446744073709551616
        · obtain ⟨t0, t1⟩ := ST.1 c
          subst t0
          subst t1
          have HC : Hid (v * b + d < 18446744073709551616) := c
          clear c ST
          obtain ⟨T, hT⟩ : ∃ T : Nat, v * b + d = T := ⟨_, rfl⟩
          rw [hT] at AD HS HC
          clear hT
          go_wp2_with (go_at_call 80; refine (MW _).mono ?_; rintro e wa ⟨rfl, hba⟩; obtain ⟨hca, hfa⟩ := bcell hba; have sa := hba.size; have q0 : w.heap.size < wa.heap.size := (by omega))
          go_region_held3 (fun w' => w'.cell? ⟨wa.heap.size, 0, none⟩ = some (.int .u64 M) ∧ w'.cell? ⟨wa.heap.size, 1, none⟩ = some (.int .u64 L)) (simp [*, go_sem, World.cell?_alloc_past])
            (first | (go_at_call 82; refine (DC _).mono ?_; rintro e wd ⟨rfl, hwd⟩; rw [hwd]) | (go_at_call 81; refine (AD _).mono ?_; rintro e wb ⟨rfl, hbb⟩; obtain ⟨hcb, hfb⟩ := bcell hbb; have sb := hbb.size; simp at hcb hfb sb; have q2 : wa.heap.size < wb.heap.size := (by omega); have q4 : w.heap.size < wb.heap.size := (by omega)))
          all_goals
            have J : VInv w.heap.size w wb v := by
              first
                | exact ((HVV.out.carry hba).carry ((Below.refl _ _).alloc (Nat.le_refl _) _).drew).carry hbb
                | exact ((HVV.out.carry hba).carry (((Below.refl _ _).alloc (Nat.le_refl _) _).alloc (by simp) _).drew).carry hbb
            try (have c80 : wb.cell? ⟨wa.heap.size + 1, 0, none⟩ = some (.int .u64 0) := (by rw [hcb _ _ (by omega)]; simp))
            try (have c81 : wb.cell? ⟨wa.heap.size + 1, 1, none⟩ = some (.int .u64 0) := (by rw [hcb _ _ (by omega)]; simp))
            try (have c8f : ∀ o, wb.frozen? ⟨wa.heap.size + 1, o, none⟩ = false := (by intro o; rw [hfb _ _ (by omega)]; exact World.frozen?_alloc_at _ _ _ _ (by simp)))
            clear b0 b1 f0 hca hfa hcb hfb
            have b0 := J.box0
            have b1 := J.box1
            have f0 := J.fz
            have HJ : Hid (VInv w.heap.size w wb v) := J
            clear J HV HVV
            go_wp2
            go_roundw
            case rel =>
              refine ⟨k + 1, T, by go_num, by omega, HC.out, HS, ?_⟩
              first
                | exact (HJ.out.set _ _).carry ((Below.refl _ _).alloc (Nat.le_refl _) _)
                | exact ((HJ.out.other _ _ _ (by omega)).other _ _ _ (by omega)).set _ _
            case measure => simp [intOf] <;> omega
        · have t0 := ST.2 c
          have hbig : ¬ V < 18446744073709551616 := by
            have a1 := av_ge (show 1 ≤ b by omega) (s.data.toList.drop (k + 1)) (v * b + d)
            rw [← HS.out] at a1
            omega
          have HO : Hid (rvV V = .tuple #[.int .u64 18446744073709551615, .bool false]) := rvV_out hbig
          have t1 : (H != 0) = true := by simpa using t0
          clear c ST t0 hbig HS
          go_wp2_with (go_at_call 80; refine (MW _).mono ?_; rintro e wa ⟨rfl, hba⟩; obtain ⟨hca, hfa⟩ := bcell hba; have sa := hba.size; have q0 : w.heap.size < wa.heap.size := (by omega))
          go_region_held3 (fun w' => w'.cell? ⟨wa.heap.size, 0, none⟩ = some (.int .u64 M) ∧ w'.cell? ⟨wa.heap.size, 1, none⟩ = some (.int .u64 L)) (simp [*, go_sem, World.cell?_alloc_past])
            (first | (go_at_call 82; refine (DC _).mono ?_; rintro e wd ⟨rfl, hwd⟩; rw [hwd]) | (go_at_call 81; refine (AD _).mono ?_; rintro e wb ⟨rfl, hbb⟩; obtain ⟨hcb, hfb⟩ := bcell hbb; have sb := hbb.size; simp at hcb hfb sb; have q2 : wa.heap.size < wb.heap.size := (by omega); have q4 : w.heap.size < wb.heap.size := (by omega)))
          all_goals
            have J : VInv w.heap.size w wb v := by
              first
                | exact ((HVV.out.carry hba).carry ((Below.refl _ _).alloc (Nat.le_refl _) _).drew).carry hbb
                | exact ((HVV.out.carry hba).carry (((Below.refl _ _).alloc (Nat.le_refl _) _).alloc (by simp) _).drew).carry hbb
            try (have c80 : wb.cell? ⟨wa.heap.size + 1, 0, none⟩ = some (.int .u64 0) := (by rw [hcb _ _ (by omega)]; simp))
            try (have c81 : wb.cell? ⟨wa.heap.size + 1, 1, none⟩ = some (.int .u64 0) := (by rw [hcb _ _ (by omega)]; simp))
            try (have c8f : ∀ o, wb.frozen? ⟨wa.heap.size + 1, o, none⟩ = false := (by intro o; rw [hfb _ _ (by omega)]; exact World.frozen?_alloc_at _ _ _ _ (by simp)))
            clear b0 b1 f0 hca hfa hcb hfb
            have b0 := J.box0
            have b1 := J.box1
            have f0 := J.fz
            have HJ : Hid (VInv w.heap.size w wb v) := J
            clear J HV HVV
            go_wp2
            go_ret2
            refine ⟨by rw [HO.out]; rfl, ?_⟩
            first
              | exact ((HJ.out.below.setCell (Nat.le_refl _) _).setCell (Nat.le_refl _) _).alloc (by simp; omega) _
              | exact (((HJ.out.below.setCell (by simp; omega) _).setCell (by simp; omega) _).setCell (Nat.le_refl _) _).setCell (Nat.le_refl _) _
    · have hV : V = v := by
        rw [HI.out, drop_end s hlt]; rfl
      subst hV
      have HO : Hid (rvV V = .tuple #[.int .u64 (V : Int), .bool true]) := rvV_in hv
      have hlt' : ¬ (k : Int) < (s.size : Int) := by omega
      clear HI
      go_wp2
      go_ret2
      exact ⟨by rw [HO.out]; rfl, HV.out.below⟩
set_option maxRecDepth 100000 in
set_option maxHeartbeats 4000000 in
theorem rval_zero (s : ByteArray) (hs : s.size ≤ 9223372036854775806) (hok : ∀ c ∈ s.data.toList, okc c = true) (w : World) :
    Calls Tryd.prog 55 #[.string s, .int .i64 0] w fun e w' => e = .returned (rvV (av (aB s.data.toList) 0 (s.data.toList.drop (aN s.data.toList)))) ∧ Below w.heap.size w w' := by
  have AH := fun W => ahead_any s (by omega) W
  rw [bt_btl, bt_btl, aB_int, aN_int] at AH
  have hlen := aN_len s.data.toList
  rw [size_list] at hlen
  obtain ⟨h1, h2⟩ := aB_in s.data.toList
  obtain ⟨t, ht⟩ : ∃ t, s.extract (aN s.data.toList) s.size = t := ⟨_, rfl⟩
  have htl := list_drop s (aN s.data.toList)
  rw [ht] at htl
  rw [← htl]
  have hts : t.size ≤ 9223372036854775806 := by rw [← ht, ByteArray.size_extract]; omega
  have HOK : Hid (∀ c ∈ t.data.toList, okc c = true) := fun c hc => hok c (by rw [htl] at hc; exact List.mem_of_mem_drop hc)
  obtain ⟨V, hV⟩ : ∃ V, V = av (aB s.data.toList) 0 t.data.toList := ⟨_, rfl⟩
  rw [← hV]
  have HV : Hid (V = av (aB s.data.toList) 0 t.data.toList) := hV
  clear hV hok htl
  generalize aB s.data.toList = X at *
  generalize aN s.data.toList = n at *
  have hn' : ¬ (s.size : Int) < (n : Int) := by omega
  go_enter Tryd.func55, Tryd.ntmps55
  go_wp2_with fail
  refine (AH _).mono ?_
  rintro e w ⟨rfl, rfl⟩
  go_wp2
  go_loopw [9] (fun iv wr => ∃ k v : Nat, iv = .int .i64 (k : Int) ∧ k ≤ t.size ∧ v < 18446744073709551616 ∧ Hid (V = av X v (t.data.toList.drop k)) ∧ VInv w.heap.size w wr v) (fun iv _ => t.size - (intOf iv).toNat)
  case atStart => exact ⟨0, 0, rfl, Nat.zero_le _, by omega, by (show V = _; rw [List.drop_zero, HV.out]), VInv.init w⟩
  case round =>
    clear HV
    obtain ⟨k, v, rfl, hk, hv, HI, I⟩ := hrel
    have b0 := I.box0
    have b1 := I.box1
    have f0 := I.fz
    have z0 := I.size
    have p0 : w.heap.size < wr.heap.size := by omega
    have HV : Hid (VInv w.heap.size w wr v) := I
    clear I
    by_cases hlt : k < t.size
    · have HDR : Hid (t.data.toList.drop k = (t[k]'hlt) :: t.data.toList.drop (k + 1)) := drop_at t hlt
      have hlt' : (k : Int) < (t.size : Int) := by omega
      have hokc := HOK.out _ (mem_at t hlt)
      by_cases q : ((t[k]'hlt).toNat : Int) = 95
      · have HS : Hid (V = av X v (t.data.toList.drop (k + 1))) := by
          show V = _
          rw [HI.out, HDR.out, av_cons, avs_no (by rw [show (t[k]'hlt).toNat = 95 by omega]; decide)]
        clear HI HDR hokc b0 b1 f0
        go_wp2
        go_roundw
        case rel => exact ⟨k + 1, v, by go_num, by omega, hv, HS, HV.out⟩
        case measure => simp [intOf] <;> omega
      · have q' : (((t[k]'hlt).toNat : Int) == 95) = false := beq_eq_false_iff_ne.mpr q
        have hd : dv (t[k]'hlt).toNat < 36 := okc_dig hokc q
        have HS : Hid (V = av X (v * X + dv (t[k]'hlt).toNat) (t.data.toList.drop (k + 1))) := by
          show V = _
          rw [HI.out, HDR.out, av_cons, avs_yes hd]
        have DC := rdig_any (t[k]'hlt).toNat (UInt8.toNat_lt _)
        clear HI HDR hokc
        generalize dv (t[k]'hlt).toNat = d at *
        have ST := mul_step (v := v) (b := X) (d := d) hv (by omega) hd
        have wv : Word (v : Int) := ⟨by omega, by omega⟩
        have wb' : Word (X : Int) := ⟨by omega, by omega⟩
        have hm1 := m3Mid_w 0 (v : Int) (X : Int)
        have hm2 := mLo_word (v : Int) (X : Int)
        have hwd : Word (d : Int) := ⟨by omega, by omega⟩
        have MW := fun W => rmulw_any 0 (v : Int) (X : Int) w00 wv wb' W
        obtain ⟨TP, hTP⟩ : ∃ x, m3Top 0 (v : Int) (X : Int) = x := ⟨_, rfl⟩
        obtain ⟨M, hM⟩ : ∃ x, m3Mid 0 (v : Int) (X : Int) = x := ⟨_, rfl⟩
        obtain ⟨L, hL⟩ : ∃ x, mLo (v : Int) (X : Int) = x := ⟨_, rfl⟩
        rw [hTP, hM, hL] at MW
        rw [hM] at ST hm1
        rw [hL] at ST hm2
        clear hTP hM hL
        have AD := fun W => radd_any M L 0 (d : Int) hm1 hm2 w00 hwd W
        obtain ⟨H, hH⟩ : ∃ x, sHi M L 0 (d : Int) = x := ⟨_, rfl⟩
        obtain ⟨Z, hZ⟩ : ∃ x, sLo L (d : Int) = x := ⟨_, rfl⟩
        generalize sOv M L 0 (d : Int) = OV at *
        rw [hH] at ST AD
        rw [hZ] at ST AD
        clear hH hZ hm1 hm2
        have u1 : IntKind.u64.wrap (X : Int) = (X : Int) := by rw [IntKind.wrap_u64]; omega
        have u2 : IntKind.u64.wrap (d : Int) = (d : Int) := by rw [IntKind.wrap_u64]; omega
        have HVV := HV
        by_cases c : v * X + d < 18446744073709551616
        · obtain ⟨t0, t1⟩ := ST.1 c
          subst t0
          subst t1
          have HC : Hid (v * X + d < 18446744073709551616) := c
          clear c ST
          obtain ⟨T, hT⟩ : ∃ T : Nat, v * X + d = T := ⟨_, rfl⟩
          rw [hT] at AD HS HC
          clear hT
          go_wp2_with (go_at_call 80; refine (MW _).mono ?_; rintro e wa ⟨rfl, hba⟩; obtain ⟨hca, hfa⟩ := bcell hba; have sa := hba.size; have q0 : w.heap.size < wa.heap.size := (by omega))
          go_region_held3 (fun w' => w'.cell? ⟨wa.heap.size, 0, none⟩ = some (.int .u64 M) ∧ w'.cell? ⟨wa.heap.size, 1, none⟩ = some (.int .u64 L)) (simp [*, go_sem, World.cell?_alloc_past])
            (first | (go_at_call 82; refine (DC _).mono ?_; rintro e wd ⟨rfl, hwd⟩; rw [hwd]) | (go_at_call 81; refine (AD _).mono ?_; rintro e wb ⟨rfl, hbb⟩; obtain ⟨hcb, hfb⟩ := bcell hbb; have sb := hbb.size; simp at hcb hfb sb; have q2 : wa.heap.size < wb.heap.size := (by omega); have q4 : w.heap.size < wb.heap.size := (by omega)))
          all_goals
            have J : VInv w.heap.size w wb v := by
              first
                | exact ((HVV.out.carry hba).carry ((Below.refl _ _).alloc (Nat.le_refl _) _).drew).carry hbb
                | exact ((HVV.out.carry hba).carry (((Below.refl _ _).alloc (Nat.le_refl _) _).alloc (by simp) _).drew).carry hbb
            try (have c80 : wb.cell? ⟨wa.heap.size + 1, 0, none⟩ = some (.int .u64 0) := (by rw [hcb _ _ (by omega)]; simp))
            try (have c81 : wb.cell? ⟨wa.heap.size + 1, 1, none⟩ = some (.int .u64 0) := (by rw [hcb _ _ (by omega)]; simp))
            try (have c8f : ∀ o, wb.frozen? ⟨wa.heap.size + 1, o, none⟩ = false := (by intro o; rw [hfb _ _ (by omega)]; exact World.frozen?_alloc_at _ _ _ _ (by simp)))
            clear b0 b1 f0 hca hfa hcb hfb
            have b0 := J.box0
            have b1 := J.box1
            have f0 := J.fz
            have HJ : Hid (VInv w.heap.size w wb v) := J
            clear J HV HVV
            go_wp2
            go_roundw
            case rel =>
              refine ⟨k + 1, T, by go_num, by omega, HC.out, HS, ?_⟩
              first
                | exact (HJ.out.set _ _).carry ((Below.refl _ _).alloc (Nat.le_refl _) _)
                | exact ((HJ.out.other _ _ _ (by omega)).other _ _ _ (by omega)).set _ _
            case measure => simp [intOf] <;> omega
        · have t0 := ST.2 c
          have hbig : ¬ V < 18446744073709551616 := by
            have a1 := av_ge (show 1 ≤ X by omega) (t.data.toList.drop (k + 1)) (v * X + d)
            rw [← HS.out] at a1
            omega
          have HO : Hid (rvV V = .tuple #[.int .u64 18446744073709551615, .bool false]) := rvV_out hbig
          have t1 : (H != 0) = true := by simpa using t0
          clear c ST t0 hbig HS
          go_wp2_with (go_at_call 80; refine (MW _).mono ?_; rintro e wa ⟨rfl, hba⟩; obtain ⟨hca, hfa⟩ := bcell hba; have sa := hba.size; have q0 : w.heap.size < wa.heap.size := (by omega))
          go_region_held3 (fun w' => w'.cell? ⟨wa.heap.size, 0, none⟩ = some (.int .u64 M) ∧ w'.cell? ⟨wa.heap.size, 1, none⟩ = some (.int .u64 L)) (simp [*, go_sem, World.cell?_alloc_past])
            (first | (go_at_call 82; refine (DC _).mono ?_; rintro e wd ⟨rfl, hwd⟩; rw [hwd]) | (go_at_call 81; refine (AD _).mono ?_; rintro e wb ⟨rfl, hbb⟩; obtain ⟨hcb, hfb⟩ := bcell hbb; have sb := hbb.size; simp at hcb hfb sb; have q2 : wa.heap.size < wb.heap.size := (by omega); have q4 : w.heap.size < wb.heap.size := (by omega)))
          all_goals
            have J : VInv w.heap.size w wb v := by
              first
                | exact ((HVV.out.carry hba).carry ((Below.refl _ _).alloc (Nat.le_refl _) _).drew).carry hbb
                | exact ((HVV.out.carry hba).carry (((Below.refl _ _).alloc (Nat.le_refl _) _).alloc (by simp) _).drew).carry hbb
            try (have c80 : wb.cell? ⟨wa.heap.size + 1, 0, none⟩ = some (.int .u64 0) := (by rw [hcb _ _ (by omega)]; simp))
            try (have c81 : wb.cell? ⟨wa.heap.size + 1, 1, none⟩ = some (.int .u64 0) := (by rw [hcb _ _ (by omega)]; simp))
            try (have c8f : ∀ o, wb.frozen? ⟨wa.heap.size + 1, o, none⟩ = false := (by intro o; rw [hfb _ _ (by omega)]; exact World.frozen?_alloc_at _ _ _ _ (by simp)))
            clear b0 b1 f0 hca hfa hcb hfb
            have b0 := J.box0
            have b1 := J.box1
            have f0 := J.fz
            have HJ : Hid (VInv w.heap.size w wb v) := J
            clear J HV HVV
            go_wp2
            go_ret2
            refine ⟨by rw [HO.out]; rfl, ?_⟩
            first
              | exact ((HJ.out.below.setCell (Nat.le_refl _) _).setCell (Nat.le_refl _) _).alloc (by simp; omega) _
              | exact (((HJ.out.below.setCell (by simp; omega) _).setCell (by simp; omega) _).setCell (Nat.le_refl _) _).setCell (Nat.le_refl _) _
    · have hV : V = v := by
        rw [HI.out, drop_end t hlt]; rfl
      subst hV
      have HO : Hid (rvV V = .tuple #[.int .u64 (V : Int), .bool true]) := rvV_in hv
      have hlt' : ¬ (k : Int) < (t.size : Int) := by omega
      clear HI
      go_wp2
      go_ret2
      exact ⟨by rw [HO.out]; rfl, HV.out.below⟩
theorem rval_any (s : ByteArray) (hs : s.size ≤ 9223372036854775806) (b : Nat) (h : readB b) (hok : ∀ c ∈ s.data.toList, okc c = true) (w : World) :
    Calls Tryd.prog 55 #[.string s, .int .i64 (b : Int)] w fun e w' => e = .returned (rvV (av (if b = 0 then aB s.data.toList else b) 0 (s.data.toList.drop (if b = 0 then aN s.data.toList else 0)))) ∧ Below w.heap.size w w' := by
  rcases h with h | h
  · subst h
    rw [if_pos rfl, if_pos rfl]
    exact rval_zero s hs hok w
  · rw [if_neg (by omega), if_neg (by omega), List.drop_zero]
    exact rval_base s hs b h.1 h.2 hok w
end Go.Proofs.YtoabdoognadijaaDoor
