/-
  Holds: PsN PsQ.
-/
import Derived.Test.YtiminkommimgdabGreatDoorChecked
import Derived.WalkKit
import Derived.Deep.DeepMust
import Derived.Lib.Strings
import Derived.Lib.BufferWrite
import Derived.Deep.OwnRows
import Derived.Deep.RegionHeld3
import Derived.Deep.QuietTactic
import Derived.BigQuiet
import Derived.Deep.AppendLies
import Derived.Lib.ConvBytes
import Derived.Test.YtiminkommimgdabGreatDoorShelf
import Derived.Test.YtiminkommimgdabGreatDoorRows
import Derived.WalkSpells
import Derived.WalkLawsBesides
import Derived.Lib.Mul64
import Derived.Lib.TrailingZeros
import Derived.Lib.ItoaNum
import Derived.Laws.CopyOwn
import Derived.Deep.LoopGhost
import Derived.Deep.DeepCutAuto
import Derived.Stop.Asserts
import Derived.RowKitTokens
import Derived.Test.YtiminkommimgdabGreatDoorZ6
import Derived.Test.YtiminkommimgdabGreatDoorZ37
import Derived.Test.YtiminkommimgdabGreatDoorZ38
set_option maxRecDepth 100000
set_option maxHeartbeats 4000000
namespace Go.Proofs.YtiminkommimgdabGreatDoor
def POk (P : Pt) : Prop :=
 (P.kind = 1 ∧ VD (sB P.dd) P.dp P.dc) ∨
 (P.kind = 2 ∧ P.mant < 18446744073709551616 ∧ -1099511627776 ≤ P.exp ∧ P.exp ≤ 1099511627776 ∧ (P.cut = true → 1152921504606846976 ≤ P.mant)) ∨
 P.kind = 3 ∨ (P.kind = 4 ∧ P.neg = false)
theorem av_low : ∀ (l : List UInt8), (∀ c ∈ l, isD 16 c = true) → ∀ a, a * 16 ^ l.length ≤ av 16 a l
  | [], _, a => by rw [List.length_nil, Nat.pow_zero, Nat.mul_one]; exact Nat.le_refl _
  | c :: r, h, a => by
    have hc : dv c.toNat < 16 := of_decide_eq_true (h c (by simp))
    have ih := av_low r (fun x hx => h x (by simp [hx])) (a * 16 + dv c.toNat)
    rw [av_cons, avs_yes (by omega), List.length_cons, Nat.pow_succ]
    have e2 : a * (16 ^ r.length * 16) = a * 16 * 16 ^ r.length := by
      rw [Nat.mul_comm (16 ^ r.length) 16, ← Nat.mul_assoc]
    have : a * 16 * 16 ^ r.length ≤ (a * 16 + dv c.toNat) * 16 ^ r.length := Nat.mul_le_mul_right _ (by omega)
    omega
theorem hx_ok {W P : List UInt8} (h : ∀ c ∈ W ++ P, isD 16 c = true) (e : Int) : POk (hxPt W P e) := by
 right; left
 unfold hxPt
 show (2 : Int) = 2 ∧ hxM (W ++ P) < _ ∧ _ ≤ hxE W P e ∧ hxE W P e ≤ _ ∧ (hxC (W ++ P) = true → _ ≤ hxM (W ++ P))
 have hE : -1099511627776 ≤ hxE W P e ∧ hxE W P e ≤ 1099511627776 := by
  unfold hxE
  split
  · omega
  · exact ctI_in _
 generalize W ++ P = a at *
 have sub : ∀ c ∈ (a.take (hxK a)).drop (nz a), isD 16 c = true := fun c hc => h c (List.mem_of_mem_take (List.mem_of_mem_drop hc))
 have len : ((a.take (hxK a)).drop (nz a)).length = hxK a - nz a := by
  rw [List.length_drop, List.length_take]
  unfold hxK
  omega
 have k1 : hxK a - nz a ≤ 16 := by unfold hxK; omega
 refine ⟨rfl, ?_, hE.1, hE.2, ?_⟩
 · have q := av_lt _ sub 0
   have p : 16 ^ ((a.take (hxK a)).drop (nz a)).length ≤ 16 ^ 16 := Nat.pow_le_pow_right (by decide) (by omega)
   have e16 : (16 : Nat) ^ 16 = 18446744073709551616 := by decide
   unfold hxM
   omega
 · intro hc
   have hl : nz a + 16 < a.length := by
    apply Classical.byContradiction
    intro n
    have : hxK a = a.length := by unfold hxK; omega
    unfold hxC at hc
    rw [this, List.drop_eq_nil_of_le (Nat.le_refl _)] at hc
    exact absurd hc (by decide)
   have hk : hxK a = nz a + 16 := by unfold hxK; omega
   have first := nz_at a (by omega)
   unfold hxM
   revert sub len
   rw [hk]
   have e : (a.take (nz a + 16)).drop (nz a) = a[nz a]'(by omega) :: (a.take (nz a + 16)).drop (nz a + 1) := by
    rw [List.drop_eq_getElem_cons (by rw [List.length_take]; omega), List.getElem_take]
   rw [e]
   intro sub len
   have c16 : dv (a[nz a]'(by omega)).toNat < 16 := of_decide_eq_true (sub _ (by simp))
   have c0 : dv (a[nz a]'(by omega)).toNat ≠ 0 := by
    intro z
    apply first
    have : (a[nz a]'(by omega)).toNat = 48 := by
     revert z
     generalize (a[nz a]'(by omega)).toNat = t
     unfold dv
     split <;> (try split) <;> (try split) <;> omega
    exact UInt8.toNat_inj.1 this
   rw [av_cons, avs_yes (by omega)]
   have l15 : ((a.take (nz a + 16)).drop (nz a + 1)).length = 15 := by rw [List.length_cons] at len; omega
   have q := av_low ((a.take (nz a + 16)).drop (nz a + 1)) (fun c hc => sub c (by simp [hc])) (0 * 16 + dv (a[nz a]'(by omega)).toNat)
   rw [l15] at q
   have e15 : (16 : Nat) ^ 15 = 1152921504606846976 := by decide
   rw [e15] at q
   omega
theorem any_ok {sg : Bool} {r : List UInt8} {P : Pt} {n : Nat} (h : kAny sg r = some (P, n)) (g : Bool) (hg : sg = false → g = false) : POk { P with neg := g } := by
 unfold kAny at h
 split at h
 · rename_i x hx
   obtain rfl := Option.some.inj h
   unfold kInf at hx
   split at hx
   · obtain ⟨rfl, _⟩ := Prod.mk.inj (Option.some.inj hx)
     exact .inr (.inr (.inl rfl))
   · split at hx
     · obtain ⟨rfl, _⟩ := Prod.mk.inj (Option.some.inj hx)
       exact .inr (.inr (.inl rfl))
     · cases hx
 · split at h
   · rename_i x hx
     obtain rfl := Option.some.inj h
     unfold kNan at hx
     split at hx
     · rename_i q
       obtain ⟨rfl, _⟩ := Prod.mk.inj (Option.some.inj hx)
       exact .inr (.inr (.inr ⟨rfl, hg q.1⟩))
     · cases hx
   · split at h
     · rename_i x hx
       obtain rfl := Option.some.inj h
       unfold kHex at hx
       split at hx
       · split at hx
         · cases hx
         · rename_i W Q m hm
           split at hx
           · cases hx
           · obtain ⟨rfl, _⟩ := Prod.mk.inj (Option.some.inj hx)
             have h := hx_ok (mnt_mem hm) (e := by assumption)
             rcases h with ⟨h, _⟩ | h | h | ⟨h, _⟩
             · exact absurd (show (2 : Int) = 1 from h) (by decide)
             · exact .inr (.inl h)
             · exact absurd (show (2 : Int) = 3 from h) (by decide)
             · exact absurd (show (2 : Int) = 4 from h) (by decide)
       · cases hx
     · unfold kDec at h
       split at h
       · cases h
       · split at h
         · obtain ⟨rfl, _⟩ := Prod.mk.inj (Option.some.inj h)
           exact .inl ⟨rfl, de_valid _ _ _⟩
         · obtain ⟨rfl, _⟩ := Prod.mk.inj (Option.some.inj h)
           exact .inl ⟨rfl, de_valid _ _ _⟩
theorem sg_none {l : List UInt8} (h : decide (0 < sgA l) = false) : sgM l = false := by
  rw [decide_eq_false_iff_not] at h
  match l, h with
  | [], _ => rfl
  | c :: r, h =>
    have q : ¬ (c = 43 ∨ c = 45) := fun q => h (by show 0 < (if _ then _ else _); rw [if_pos q]; decide)
    show (c == 45) = false
    exact beq_eq_false_iff_ne.mpr fun e => q (.inr e)
theorem pfx_ok {l : List UInt8} {P : Pt} {n : Nat} (h : pfx l = some (P, n)) : POk P := by
 unfold pfx at h
 split at h
 · cases h
 · rename_i p m hk
   obtain ⟨rfl, _⟩ := Prod.mk.inj (Option.some.inj h)
   exact any_ok hk _ sg_none
theorem scn_ok {l : List UInt8} {P : Pt} (h : scn l = some P) : POk P := by
 unfold scn at h
 split at h
 · cases h
 · rename_i p n hp
   split at h
   · obtain rfl := Option.some.inj h
     exact pfx_ok hp
   · cases h
theorem hx_sure {z : Int} {g n f T : Nat} {L : Int} (hz : Fz z g n f T L) {m : Nat} {e : Int} {c : Bool} (h : c = true → 1152921504606846976 ≤ m) : hxA f T L m e c = some (rdA f T L m 1 e c) := by
 unfold hxA
 rw [if_neg]
 rintro ⟨q, k, _⟩
 have f52 : f ≤ 52 := by rcases hz with ⟨_, _, _, rfl, _⟩ | ⟨_, _, _, rfl, _⟩ <;> decide
 have a := h q
 have l60 : 60 ≤ ln m := by
  apply Classical.byContradiction
  intro n
  have b := ln_lt m
  have b2 : 2 ^ ln m ≤ 2 ^ 60 := Nat.pow_le_pow_right (by decide) (by omega)
  have e60 : (2 : Nat) ^ 60 = 1152921504606846976 := by decide
  omega
 unfold dpD at k
 omega
def ofP (g f T : Nat) (L : Int) (P : Pt) : Nat × Bool :=
 if P.kind = 4 then (T * 2 ^ f + 2 ^ (f - 1), false) else if P.kind = 3 then (sgd g P.neg (T * 2 ^ f), false)
 else if P.kind = 2 then (sgd g P.neg (rdA f T L P.mant 1 P.exp P.cut).1, (rdA f T L P.mant 1 P.exp P.cut).2)
 else (sgd g P.neg (nrX f T L (sB P.dd) P.dp P.dc).1, (nrX f T L (sB P.dd) P.dp P.dc).2)
theorem nrX_le {f T : Nat} (hT : 0 < T) {L : Int} {d : ByteArray} {p : Int} {c : Bool} : (nrX f T L d p c).1 ≤ T * 2 ^ f ∧ ((nrX f T L d p c).2 = true ↔ (nrX f T L d p c).1 = T * 2 ^ f) := by
 unfold nrX
 split
 · have : 0 < T * 2 ^ f := Nat.mul_pos hT (Nat.two_pow_pos f)
   exact ⟨Nat.zero_le _, ⟨fun h => absurd h (by decide), fun h => absurd h (by show (0 : Nat) ≠ _; omega)⟩⟩
 · exact rdA_end hT
def Stp (b : Nat) (R : List UInt8) : Prop := R = [] ∨ ∃ c r, R = c :: r ∧ isD b c = false ∧ c ≠ 95
theorem rch_app {b : Nat} {R : List UInt8} (hR : Stp b R) : ∀ (A : List UInt8) (j : Bool), (∀ c ∈ A, isD b c = true) → rch b j (A ++ R) = A.length ∧ rdg b j (A ++ R) = A
  | [], j, _ => by
    rcases hR with rfl | ⟨c, r, rfl, h, n⟩
    · exact ⟨rfl, rfl⟩
    · exact ⟨rch_bad h fun q => n q.1, rdg_bad h fun q => n q.1⟩
  | c :: A, j, h => by
    have hc := h c (by simp)
    obtain ⟨a, d⟩ := rch_app hR A true fun x hx => h x (by simp [hx])
    refine ⟨?_, ?_⟩
    · show rch b j (c :: (A ++ R)) = _
      rw [rch_digit hc, a]
      rfl
    · show rdg b j (c :: (A ++ R)) = _
      rw [rdg_digit hc, d]
theorem dig_ten {c : UInt8} (h : isD 10 c = true) : dv c.toNat = c.toNat - 48 ∧ 48 ≤ c.toNat ∧ c.toNat ≤ 57 := by
 have h' : dv c.toNat < 10 := of_decide_eq_true h
 revert h'
 generalize c.toNat = t
 unfold dv
 split
 · intro _
   omega
 · split
   · intro _
     omega
   · split
     · intro _
       omega
     · intro _
       omega
theorem cnt_av : ∀ (l : List UInt8) (a : Nat), (∀ c ∈ l, isD 10 c = true) → av 10 a l ≤ 1099511627776 → cnt a l = av 10 a l
  | [], _, _, _ => rfl
  | c :: r, a, h, hl => by
    obtain ⟨e, e1, e2⟩ := dig_ten (h c (by simp))
    have s : avs 10 a c = a * 10 + (c.toNat - 48) := by rw [avs_yes (by omega), e]
    rw [av_cons, s] at hl ⊢
    have g := av_ge (b := 10) (by decide) r (a * 10 + (c.toNat - 48))
    rw [cnt_cons, show cns a c = a * 10 + (c.toNat - 48) from by unfold cns; omega]
    exact cnt_av r _ (fun x hx => h x (by simp [hx])) hl
theorem exn_app {L : UInt8} (hL : sml L = L) (neg : Bool) {e : Nat} (he : e ≤ 5000) : exn L.toNat (L :: ((if neg then [45] else []) ++ fl 10 e)) = some (if neg then -(e : Int) else (e : Int), 1 + (if neg then 1 else 0) + (fl 10 e).length) := by
  have dg := fl_digit (b := 10) (by decide) (by decide) e
  obtain ⟨r1, r2⟩ := rch_app (b := 10) (R := []) (.inl rfl) (fl 10 e) false dg
  rw [List.append_nil] at r1 r2
  have p := fl_pos 10 e
  have c := cnt_av (fl 10 e) 0 dg (by rw [av_fl (by decide) (by decide)]; omega)
  rw [av_fl (by decide) (by decide)] at c
  show (if (sml L).toNat = L.toNat then _ else _) = _
  rw [hL, if_pos rfl]
  cases neg with
  | true =>
    have s1 : sgA ([45] ++ fl 10 e) = 1 := rfl
    have s2 : sgM ([45] ++ fl 10 e) = true := rfl
    have d1 : ([45] ++ fl 10 e).drop 1 = fl 10 e := rfl
    simp only [if_true]
    rw [s1, d1, r1, if_neg (by omega)]
    unfold exNs
    rw [s1, s2, d1, r2, c, if_pos rfl]
  | false =>
    have hd : ∃ x t, fl 10 e = x :: t := by
      cases h : fl 10 e with
      | nil => rw [h] at p; exact absurd p (by decide)
      | cons x t => exact ⟨x, t, rfl⟩
    obtain ⟨x, t, hx⟩ := hd
    obtain ⟨_, x1, x2⟩ := dig_ten (dg x (by rw [hx]; simp))
    have n43 : ¬ (x = 43 ∨ x = 45) := by
      rintro (q | q) <;> rw [q] at x1 <;> exact absurd x1 (by decide)
    have s1 : sgA ([] ++ fl 10 e) = 0 := by
      rw [List.nil_append, hx]
      show (if _ then _ else _) = _
      rw [if_neg n43]
    have s2 : sgM ([] ++ fl 10 e) = false := by
      rw [List.nil_append, hx]
      exact beq_eq_false_iff_ne.mpr fun q => n43 (.inr q)
    have d1 : ([] ++ fl 10 e).drop 0 = fl 10 e := rfl
    simp only [Bool.false_eq_true, if_false]
    rw [s1, d1, r1, if_neg (by omega)]
    unfold exNs
    rw [s1, s2, d1, r2, c, if_neg (by decide)]
theorem fl16_le {m : Nat} (hm : m < 18446744073709551616) : (fl 16 m).length ≤ 16 := by
 have d := fl_dlen (b := 16) (by decide) m
 apply Classical.byContradiction
 intro n
 have q := d.2.2.1 (fun z => by have := d.2.1 z; omega)
 have p : 16 ^ 16 ≤ 16 ^ ((fl 16 m).length - 1) := Nat.pow_le_pow_right (by decide) (by omega)
 have e : (16 : Nat) ^ 16 = 18446744073709551616 := by decide
 omega
theorem nz_fl {m : Nat} (h : m ≠ 0) : nz (fl 16 m) = 0 := by
  rcases fl_first (b := 16) (by decide) (by decide) m with q | q
  · cases hx : fl 16 m with
    | nil => rfl
    | cons c r =>
      rw [hx] at q
      exact nz_no fun y => q (by rw [y]; rfl)
  · exact absurd q.1 h
theorem hx_fl {m : Nat} (hm : m < 18446744073709551616) {E : Int} (h0 : -5000 ≤ E) (h1 : E ≤ 5000) : ∃ x : Int, hxPt (fl 16 m) [] E = { kind := 2, mant := m, exp := x } ∧ (m = 0 ∨ x = E) ∧ -1099511627776 ≤ x ∧ x ≤ 1099511627776 := by
 have len := fl16_le hm
 have a := av_fl (b := 16) (by decide) (by decide) m
 unfold hxPt hxM hxE hxC
 rw [List.append_nil]
 by_cases q : m = 0
 · subst q
   rw [fl_nought 16 (by decide)]
   exact ⟨0, rfl, .inl rfl, by decide, by decide⟩
 · have z := nz_fl q
   have p := fl_pos 16 m
   have k : hxK (fl 16 m) = (fl 16 m).length := by unfold hxK; rw [z]; omega
   have cl : ctI (E + 4 * (((fl 16 m).length : Int) - ((fl 16 m).length : Int))) = E := by unfold ctI; omega
   rw [k, z, List.take_length, List.drop_zero, a, List.drop_eq_nil_of_le (Nat.le_refl _), if_neg (by omega), cl]
   exact ⟨E, rfl, .inr rfl, by omega, by omega⟩
theorem hex_scn {m : Nat} (hm : m < 18446744073709551616) (neg : Bool) {e : Nat} (he : e ≤ 5000) :
 ∃ x : Int, scn (48 :: 120 :: (fl 16 m ++ 112 :: ((if neg then [45] else []) ++ fl 10 e))) = some { kind := 2, mant := m, exp := x } ∧ (m = 0 ∨ x = if neg then -(e : Int) else (e : Int)) := by
 have dg := fl_digit (b := 16) (by decide) (by decide) m
 have st : Stp 16 (112 :: ((if neg then [45] else []) ++ fl 10 e)) := .inr ⟨_, _, rfl, by decide, by decide⟩
 obtain ⟨r1, r2⟩ := rch_app st (fl 16 m) true dg
 have p := fl_pos 16 m
 have hE : -5000 ≤ (if neg then -(e : Int) else (e : Int)) ∧ (if neg then -(e : Int) else (e : Int)) ≤ 5000 := by split <;> omega
 have ex := exn_app (L := 112) (by decide) neg he
 rw [Nat.add_assoc] at ex
 have hR : ((if neg then [45] else []) ++ fl 10 e).length = (if neg then 1 else 0) + (fl 10 e).length := by rw [List.length_append]; cases neg <;> rfl
 obtain ⟨x, hx, hx2, _⟩ := hx_fl hm hE.1 hE.2
 refine ⟨x, ?_, hx2⟩
 generalize (if neg then -(e : Int) else (e : Int)) = E at *
 generalize (if neg then [45] else []) ++ fl 10 e = R at *
 generalize (if neg then 1 else 0) + (fl 10 e).length = k at *
 have dr : (fl 16 m ++ 112 :: R).drop (fl 16 m).length = 112 :: R := List.drop_left
 have mn : mnt 16 true (fl 16 m ++ 112 :: R) = some (fl 16 m, [], (fl 16 m).length) := by
  unfold mnt
  rw [r1, r2, dr, if_neg (show ¬ hdC (112 :: R) = 46 from by show ¬ (112 : Nat) = 46; decide), if_neg (by omega)]
 have hxk : kHex (48 :: 120 :: (fl 16 m ++ 112 :: R)) = some (hxPt (fl 16 m) [] E, 2 + (fl 16 m).length + (1 + k)) := by
  unfold kHex
  rw [if_pos (show isX (48 :: 120 :: (fl 16 m ++ 112 :: R)) = true from decide_eq_true ⟨rfl, .inl rfl⟩)]
  have d2 : (48 :: 120 :: (fl 16 m ++ 112 :: R)).drop 2 = fl 16 m ++ 112 :: R := rfl
  have d3 : (48 :: 120 :: (fl 16 m ++ 112 :: R)).drop (2 + (fl 16 m).length) = 112 :: R := by
   rw [← List.drop_drop, d2, dr]
  have ex' : exn 112 (112 :: R) = some (E, 1 + k) := ex
  rw [d2, mn]
  dsimp only
  rw [d3, ex']
 have any : kAny false (48 :: 120 :: (fl 16 m ++ 112 :: R)) = some (hxPt (fl 16 m) [] E, 2 + (fl 16 m).length + (1 + k)) := by
  unfold kAny
  rw [show kInf (48 :: 120 :: (fl 16 m ++ 112 :: R)) = none from rfl, show kNan false (48 :: 120 :: (fl 16 m ++ 112 :: R)) = none from rfl, hxk]
 have pf : pfx (48 :: 120 :: (fl 16 m ++ 112 :: R)) = some ({ hxPt (fl 16 m) [] E with neg := false }, 0 + (2 + (fl 16 m).length + (1 + k))) := by
  unfold pfx
  rw [show sgA (48 :: 120 :: (fl 16 m ++ 112 :: R)) = 0 from rfl, List.drop_zero, show decide (0 < 0) = false from rfl, any]
  rfl
 unfold scn
 rw [pf]
 dsimp only
 rw [if_pos (by simp only [List.length_cons, List.length_append]; omega), hx]
end Go.Proofs.YtiminkommimgdabGreatDoor
