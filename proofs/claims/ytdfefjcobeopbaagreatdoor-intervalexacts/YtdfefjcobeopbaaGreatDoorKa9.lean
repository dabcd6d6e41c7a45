/-
  Holds: VDecR VDecP VDecHv IvM VDecF VDecY VDecZ.
-/
import Derived.Test.YtdfefjcobeopbaaGreatDoorRows
import Derived.Laws.Externs
import Derived.WalkKit
import Derived.WalkSpells
import Derived.WalkLawsBesides
import Derived.Lib.Mul64
import Derived.Stop.Asserts
import Derived.RowKitTokens
import Derived.Lib.Strings
import Derived.Lib.BufferWrite
import Derived.Deep.OwnRows
import Derived.Deep.RegionHeld3
import Derived.BigQuiet
import Derived.Lib.ConvBytes
import Derived.Laws.CopyOwn
import Derived.Lib.TrailingZeros
import Derived.Lib.ItoaNum
import Derived.Deep.LoopGhost
import Derived.Test.YtdfefjcobeopbaaGreatDoorKa2
import Derived.Test.YtdfefjcobeopbaaGreatDoorKa8
set_option maxRecDepth 100000
set_option maxHeartbeats 4000000
namespace Go.Proofs.YtdfefjcobeopbaaGreatDoor
open Go.RowKit
theorem pre_dgt {s : ByteArray} {k i : Nat} (hk : k ≤ s.size) (h : i < k) : dgt (s.extract 0 k) i = dgt s i := by
 rw [dgt_lt (by rw [pre_size hk]; exact h), dgt_lt (by omega), pre_get hk h]
theorem ba_ext {a b : ByteArray} (h : a.size = b.size) (hd : ∀ i, i < a.size → dgt a i = dgt b i) : a = b := by
 apply ByteArray.ext
 apply Array.ext
 · exact h
 · intro i h1 h2
   have q := hd i h1
   rw [dgt_lt (s := a) h1, dgt_lt (s := b) h2] at q
   exact UInt8.toNat_inj.mp q
theorem pv_inj {s t : ByteArray} (hs : DG s) (ht : DG t) {n : Nat} (h : pv s n = pv t n) : ∀ j, j < n → dgt s j = dgt t j := by
  intro j
  induction j using Nat.strongRecOn with
  | _ j ih =>
    intro hj
    rcases Nat.lt_trichotomy (dgt s j) (dgt t j) with c | c | c
    · have := pv_diff hs ht (i := j) (fun k hk => ih k hk (by omega)) c hj
      omega
    · exact c
    · have := pv_diff ht hs (i := j) (fun k hk => (ih k hk (by omega)).symm) c hj
      omega
theorem pv_low {s : ByteArray} (hs : DG s) (hf : dgt s 0 ≠ 48) : ∀ n, 10 ^ n ≤ pv s (n + 1)
  | 0 => by
    have := dgt_in hs 0
    show 1 ≤ 10 * pv s 0 + (dgt s 0 - 48)
    omega
  | n + 1 => by
    have ih := pv_low hs hf n
    show 10 ^ (n + 1) ≤ 10 * pv s (n + 1) + (dgt s (n + 1) - 48)
    rw [Nat.pow_succ]
    omega
theorem pv_noughts {s : ByteArray} {m : Nat} : ∀ k, (∀ i, m ≤ i → i < m + k → dgt s i = 48) → pv s (m + k) = pv s m * 10 ^ k
  | 0, _ => by simp
  | k + 1, h => by
    have ih := pv_noughts k (fun i a b => h i a (by omega))
    have e := h (m + k) (by omega) (by omega)
    show 10 * pv s (m + k) + (dgt s (m + k) - 48) = _
    have q : pv s m * 10 ^ (k + 1) = 10 * (pv s m * 10 ^ k) := by rw [Nat.pow_succ, ← Nat.mul_assoc, Nat.mul_comm]
    rw [ih, e, q]
    rfl
theorem pv_last {s : ByteArray} (hs : DG s) {n : Nat} (h0 : 0 < n) (h : dgt s (n - 1) ≠ 48) : pv s n % 10 ≠ 0 := by
 obtain ⟨k, rfl⟩ : ∃ k, n = k + 1 := ⟨n - 1, by omega⟩
 have d := dgt_in hs k
 have h' : dgt s k ≠ 48 := h
 show (10 * pv s k + (dgt s k - 48)) % 10 ≠ 0
 omega
structure NF (s : ByteArray) : Prop where
 pos : 0 < s.size
 dg : DG s
 first : dgt s 0 ≠ 48
 last : dgt s (s.size - 1) ≠ 48
theorem nf_same {s t : ByteArray} (hs : NF s) (ht : NF t) {k : Nat} (h : 10 * pv s s.size = pv t t.size * 10 ^ k) : k = 1 ∧ s = t := by
 have a := pv_last hs.dg hs.pos hs.last
 have b := pv_last ht.dg ht.pos ht.last
 have k1 : k = 1 := by
  rcases Nat.lt_trichotomy k 1 with c | c | c
  · exfalso
    obtain rfl : k = 0 := by omega
    simp at h
    omega
  · exact c
  · exfalso
    obtain ⟨j, rfl⟩ : ∃ j, k = j + 2 := ⟨k - 2, by omega⟩
    have e : pv t t.size * 10 ^ (j + 2) = 10 * (10 * (pv t t.size * 10 ^ j)) := by
     rw [Nat.pow_succ, Nat.pow_succ, ← Nat.mul_assoc, ← Nat.mul_assoc]; omega
    rw [e] at h
    omega
 refine ⟨k1, ?_⟩
 rw [k1, Nat.pow_one] at h
 have hv : pv s s.size = pv t t.size := by omega
 have sz : s.size = t.size := by
  have p1 := hs.pos
  have p2 := ht.pos
  have l1 := pv_low hs.dg hs.first (s.size - 1)
  have l2 := pv_low ht.dg ht.first (t.size - 1)
  rw [show s.size - 1 + 1 = s.size by omega] at l1
  rw [show t.size - 1 + 1 = t.size by omega] at l2
  have u1 := pv_bound hs.dg s.size
  have u2 := pv_bound ht.dg t.size
  rcases Nat.lt_trichotomy s.size t.size with c | c | c
  · have := Nat.pow_le_pow_right (n := 10) (by omega) (show s.size ≤ t.size - 1 by omega)
    omega
  · exact c
  · have := Nat.pow_le_pow_right (n := 10) (by omega) (show t.size ≤ s.size - 1 by omega)
    omega
 rw [← sz] at hv
 exact ba_ext sz (fun i hi => pv_inj hs.dg ht.dg hv i hi)
theorem vn_nf {s : ByteArray} {p : Int} (h : VN s p false) : NF s :=
 ⟨h.pos, h.dg, by rw [dgt_lt h.pos]; exact h.first, by rw [dgt_lt (by have := h.pos; omega)]; exact h.last.resolve_right (by simp)⟩
theorem nf_vn {s : ByteArray} (h : NF s) (hl : s.size ≤ 800) {p : Int} (h0 : -1099511627776 ≤ p) (h1 : p ≤ 1099511627776) : VN s p false :=
 ⟨h.pos, hl, h.dg, by rw [← dgt_lt h.pos]; exact h.first, Or.inl (by rw [← dgt_lt (by have := h.pos; omega)]; exact h.last), h0, h1⟩
def R0 : Nat := 1100
structure Dx (s : ByteArray) (p : Int) (X : Nat) : Prop where
 vd : VD s p false
 lo : (s.size : Int) ≤ p + (R0 : Int)
 vl : pv s s.size * 10 ^ (p + (R0 : Int) - (s.size : Int)).toNat = X
theorem Dx.vn {s : ByteArray} {p : Int} {X : Nat} (h : Dx s p X) (h0 : 0 < s.size) : VN s p false := h.vd.resolve_left (fun g => by have := g.1; omega)
theorem Dx.none {s : ByteArray} {p : Int} {X : Nat} (h : Dx s p X) (h0 : s.size = 0) : X = 0 ∧ p = 0 := by
 constructor
 · rw [← h.vl, h0]
   show 0 * _ = 0
   exact Nat.zero_mul _
 · rcases h.vd with g | g
   · exact g.2.1
   · have := g.pos; omega
theorem Dx.some {s : ByteArray} {p : Int} {X : Nat} (h : Dx s p X) (h0 : 0 < s.size) : 0 < p + (R0 : Int) ∧ 10 ^ (p + (R0 : Int) - 1).toNat ≤ X ∧ X < 10 ^ (p + (R0 : Int)).toNat := by
 have g := vn_nf (h.vn h0)
 have lo := h.lo
 have a := pv_low g.dg g.first (s.size - 1)
 rw [show s.size - 1 + 1 = s.size by omega] at a
 have b := pv_bound g.dg s.size
 refine ⟨by omega, ?_, ?_⟩
 · rw [← h.vl, show (p + (R0 : Int) - 1).toNat = (s.size - 1) + (p + (R0 : Int) - (s.size : Int)).toNat by omega, Nat.pow_add]
   exact Nat.mul_le_mul_right _ a
 · rw [← h.vl, show (p + (R0 : Int)).toNat = s.size + (p + (R0 : Int) - (s.size : Int)).toNat by omega, Nat.pow_add]
   exact Nat.mul_lt_mul_of_pos_right b (Nat.pow_pos (by omega))
theorem Dx.pos {s : ByteArray} {p : Int} {X : Nat} (h : Dx s p X) : 0 < s.size ↔ 0 < X := by
 constructor
 · intro h0
   exact Nat.lt_of_lt_of_le (Nat.pow_pos (by omega)) (h.some h0).2.1
 · intro h0
   rcases Nat.eq_zero_or_pos s.size with z | z
   · have := (h.none z).1; omega
   · exact z
theorem nf_pow {s t : ByteArray} (hs : NF s) (ht : NF t) {a b : Nat} (h : pv s s.size * 10 ^ a = pv t t.size * 10 ^ b) (hab : a ≤ b) : a = b ∧ s = t := by
 obtain ⟨k, rfl⟩ : ∃ k, b = a + k := ⟨b - a, by omega⟩
 have e : pv s s.size = pv t t.size * 10 ^ k := by
  rw [Nat.pow_add, Nat.mul_comm (10 ^ a), ← Nat.mul_assoc] at h
  exact Nat.eq_of_mul_eq_mul_right (Nat.pow_pos (by omega)) h
 obtain ⟨z, r⟩ := nf_same hs ht (k := k + 1) (by rw [e, Nat.pow_succ, Nat.mul_comm 10, Nat.mul_assoc])
 exact ⟨by omega, r⟩
theorem Dx.uniq {s : ByteArray} {p : Int} {X : Nat} {t : ByteArray} {q : Int} (a : Dx s p X) (b : Dx t q X) : s = t ∧ p = q := by
 rcases Nat.eq_zero_or_pos X with z | z
 · have s0 : s.size = 0 := by have := a.pos; omega
   have t0 : t.size = 0 := by have := b.pos; omega
   exact ⟨by rw [size_zero s0, size_zero t0], by rw [(a.none s0).2, (b.none t0).2]⟩
 · have s0 := a.pos.2 z
   have t0 := b.pos.2 z
   have la := a.lo
   have lb := b.lo
   have na := vn_nf (a.vn s0)
   have nb := vn_nf (b.vn t0)
   have e := a.vl.trans b.vl.symm
   rcases Nat.le_total (p + (R0 : Int) - (s.size : Int)).toNat (q + (R0 : Int) - (t.size : Int)).toNat with c | c
   · obtain ⟨e1, e2⟩ := nf_pow na nb e c
     subst e2
     exact ⟨rfl, by omega⟩
   · obtain ⟨e1, e2⟩ := nf_pow nb na e.symm c
     subst e2
     exact ⟨rfl, by omega⟩
theorem dx_nought : Dx ⟨#[]⟩ 0 0 := ⟨Or.inl ⟨rfl, rfl, rfl⟩, by show ((0 : Nat) : Int) ≤ 0 + (R0 : Int); omega, by rw [show pv ⟨#[]⟩ (⟨#[]⟩ : ByteArray).size = 0 from rfl, Nat.zero_mul]⟩
def fv (m : Nat) (e : Int) : Nat := m * 2 ^ (e + (R0 : Int)).toNat * 5 ^ R0
theorem fv_zero {e : Int} : fv 0 e = 0 := by unfold fv; rw [Nat.zero_mul, Nat.zero_mul]
theorem fv_up {m k : Nat} {e : Int} (h : -(R0 : Int) ≤ e) : fv m (e + (k : Int)) = fv (m * 2 ^ k) e := by
 unfold fv
 rw [show (e + (k : Int) + (R0 : Int)).toNat = k + (e + (R0 : Int)).toNat by omega, Nat.pow_add, ← Nat.mul_assoc]
theorem four_a (m a b c : Nat) : m * (a * b) * c = m * a * (b * c) := by ac_rfl
theorem four_b (m a b c : Nat) : m * a * (b * c) = m * b * (a * c) := by ac_rfl
theorem fv_neg {m k : Nat} (h : k ≤ R0) : fv m (-(k : Int)) = m * 5 ^ k * 10 ^ (R0 - k) := by
 unfold fv
 rw [show (-(k : Int) + (R0 : Int)).toNat = R0 - k by omega, show (10 : Nat) = 2 * 5 from rfl, Nat.mul_pow]
 have e : 5 ^ R0 = 5 ^ k * 5 ^ (R0 - k) := by rw [← Nat.pow_add]; congr 1; omega
 rw [e]
 exact four_b _ _ _ _
theorem fv_nat {m k : Nat} : fv m (k : Int) = m * 2 ^ k * 10 ^ R0 := by
 unfold fv
 rw [show ((k : Int) + (R0 : Int)).toNat = k + R0 by omega, show (10 : Nat) = 2 * 5 from rfl, Nat.mul_pow, Nat.pow_add]
 exact four_a _ _ _ _
structure Tx (X : Nat) (t : ByteArray) : Prop where
 lt : X < 10 ^ t.size
 lo : 0 < t.size → 10 ^ (t.size - 1) ≤ X
 dg : DG t
 vl : pv t t.size = X
theorem pre_dg {s : ByteArray} (hd : DG s) {k : Nat} (hk : k ≤ s.size) : DG (s.extract 0 k) := by
 intro i h
 have z := pre_size hk
 rw [← dgt_lt h, pre_dgt hk (by omega)]
 exact dgt_in hd i
def inR (p : Int) (z : Nat) : Prop := (z : Int) - 1099511627776 ≤ p ∧ p ≤ 1099511627776 + (z : Int)
theorem rmake_zero {t : ByteArray} {p : Int} (hl : t.size ≤ 801) (hd : DG t) {z : Nat} (hz : z = t.size) (hz1 : ∀ i, i < z → dgt t i = 48) (w : World) :
 Calls Tryz.prog 46 #[.string t, .int .i64 p, .bool false] w fun e w' => e = .returned (.tuple #[dcV ⟨#[]⟩ 0 false, .int .i64 0]) ∧ Below w.heap.size w w' := by
 unfold dcV
 have D := fun W => rdig_yes t (by omega) hd W
 have HZ : Hid (∀ i, i < z → dgt t i = 48) := hz1
 go_enter Tryz.func46, Tryz.ntmps46
 go_wp2_with fail
 refine (D _).mono ?_
 rintro e w0 ⟨rfl, rfl⟩
 go_wp2
 go_loop [8] (fun iv => ∃ k : Nat, iv = .int .i64 (k : Int) ∧ k ≤ z) (fun iv => z - (intOf iv).toNat)
 case atStart => exact ⟨0, rfl, Nat.zero_le _⟩
 case round =>
  obtain ⟨k, rfl, hk⟩ := hrel
  by_cases c0 : k < z
  · have hks : k < t.size := by omega
    have x0 : ((((t[k]'hks).toNat : Nat) : Int) == 48) = true := beq_iff_eq.mpr (by have := HZ.out k c0; rw [dgt_lt hks] at this; omega)
    have i0 : (k : Int) < (t.size : Int) := by omega
    have i1 : (0 : Int) ≤ (k : Int) := by omega
    have wk : IntKind.i64.wrap ((k : Int) + 1) = (k : Int) + 1 := by
     unfold IntKind.wrap
     simp [IntKind.bits, IntKind.signed]
     omega
    go_wp2
    go_round
    case rel => exact ⟨k + 1, by go_num, by omega⟩
    case measure => simp [intOf] <;> omega
  · obtain rfl : z = k := by omega
    have i0 : ¬ (z : Int) < (t.size : Int) := by omega
    have u0 : t.extract z t.size = ⟨#[]⟩ := by
     have e := ext_size (s := t) (k := z) (by omega)
     apply size_zero
     omega
    have i2 : (z : Int) ≤ (t.size : Int) := by omega
    have i3 : (0 : Int) ≤ (z : Int) := by omega
    go_wp2
    go_loop [0] (fun v => v = .string ⟨#[]⟩) (fun _ => 0)
    case atStart => rfl
    case round =>
     subst hrel
     go_wp2
     refine bodyPost_ret (v := .tuple #[.agg #[.string ⟨#[]⟩, .int .i64 0, .bool false], .int .i64 0]) (by simp [results, Tryz.results46, go_sem]) rfl ⟨rfl, ?_⟩
     exact (Below.refl _ _).alloc (Nat.le_refl _) _
theorem rmake_in {t : ByteArray} {p : Int} (hl : t.size ≤ 801) (hd : DG t) {z : Nat} (hz : z < t.size) (hz1 : ∀ i, i < z → dgt t i = 48) (hz2 : dgt t z ≠ 48) {u : ByteArray} (hu : t.extract z t.size = u) (hl8 : u.size ≤ 800)
 {m : Nat} (hm : m ≤ u.size) (m0 : 0 < m) (h1 : ∀ i, m ≤ i → i < u.size → dgt u i = 48) (h2 : dgt u (m - 1) ≠ 48) (hp0 : -1099511627776 ≤ p) (hp9 : p ≤ 2199023255552) (hr : inR p z) (w : World) :
 Calls Tryz.prog 46 #[.string t, .int .i64 p, .bool false] w fun e w' => e = .returned (.tuple #[dcV (u.extract 0 m) (p - (z : Int)) false, .int .i64 0]) ∧ Below w.heap.size w w' := by
 have H1 : Hid (∀ i, m ≤ i → i < u.size → dgt u i = 48) := h1
 have H2 : Hid (dgt u (m - 1) ≠ 48) := h2
 have HZ2 : Hid (dgt t z ≠ 48) := hz2
 have HR : Hid (inR p z) := hr
 have uz : u.size = t.size - z := by rw [← hu]; exact ext_size (by omega)
 clear h1 h2 hz2 hr
 unfold dcV
 have D := fun W => rdig_yes t (by omega) hd W
 have HZ : Hid (∀ i, i < z → dgt t i = 48) := hz1
 go_enter Tryz.func46, Tryz.ntmps46
 go_wp2_with fail
 refine (D _).mono ?_
 rintro e w0 ⟨rfl, rfl⟩
 go_wp2
 go_loop [8] (fun iv => ∃ k : Nat, iv = .int .i64 (k : Int) ∧ k ≤ z) (fun iv => z - (intOf iv).toNat)
 case atStart => exact ⟨0, rfl, Nat.zero_le _⟩
 case round =>
  obtain ⟨k, rfl, hk⟩ := hrel
  by_cases c0 : k < z
  · have hks : k < t.size := by omega
    have x0 : ((((t[k]'hks).toNat : Nat) : Int) == 48) = true := beq_iff_eq.mpr (by have := HZ.out k c0; rw [dgt_lt hks] at this; omega)
    have i0 : (k : Int) < (t.size : Int) := by omega
    have i1 : (0 : Int) ≤ (k : Int) := by omega
    have wk : IntKind.i64.wrap ((k : Int) + 1) = (k : Int) + 1 := by
     unfold IntKind.wrap
     simp [IntKind.bits, IntKind.signed]
     omega
    go_wp2
    go_round
    case rel => exact ⟨k + 1, by go_num, by omega⟩
    case measure => simp [intOf] <;> omega
  · obtain rfl : z = k := by omega
    have x0 : ((((t[z]'hz).toNat : Nat) : Int) == 48) = false := beq_eq_false_iff_ne.mpr (by have := HZ2.out; rw [dgt_lt hz] at this; omega)
    have i0 : (z : Int) < (t.size : Int) := by omega
    have i1 : (0 : Int) ≤ (z : Int) := by omega
    have i2 : (z : Int) ≤ (t.size : Int) := by omega
    have l8 : ¬ (800 : Int) < (u.size : Int) := by omega
    have wz : IntKind.i64.wrap (1099511627776 + (z : Int)) = 1099511627776 + (z : Int) := by
     unfold IntKind.wrap
     simp [IntKind.bits, IntKind.signed]
     omega
    have wq : IntKind.i64.wrap (p - (z : Int)) = p - (z : Int) := by
     unfold IntKind.wrap
     simp [IntKind.bits, IntKind.signed]
     omega
    go_wp2
    go_loop [0] (fun v => ∃ k, v = .string (u.extract 0 k) ∧ m ≤ k ∧ k ≤ u.size) (fun v => textLen v)
    case atStart => exact ⟨u.size, by rw [ext_zero], hm, Nat.le_refl _⟩
    case round =>
     obtain ⟨k, rfl, hk1, hk2⟩ := hrel
     have sz := pre_size hk2
     by_cases c1 : m < k
     · obtain ⟨j, rfl⟩ : ∃ j, k = j + 1 := ⟨k - 1, by omega⟩
       have e0 := pre_get (s := u) hk2 (show j < j + 1 by omega)
       have e9 := H1.out j (by omega) (by omega)
       rw [dgt_lt (by omega)] at e9
       rw [e9] at e0
       clear e9
       have cut := pre_cut (s := u) (k := j)
       have HC : Hid ((u.extract 0 j).size = j) := pre_size (by omega)
       obtain ⟨T2, hT2⟩ : ∃ T, u.extract 0 j = T := ⟨_, rfl⟩
       obtain ⟨T, hT⟩ : ∃ T, u.extract 0 (j + 1) = T := ⟨_, rfl⟩
       rw [hT2] at cut
       rw [hT] at sz cut e0 ⊢
       have HT : Hid (u.extract 0 j = T2) := hT2
       have HSZ : Hid (T.size = j + 1) := sz
       have hpos : 0 < T.size := by omega
       have hbig : T.size ≤ 9223372036854775807 := by omega
       have ix : ((T.size : Int) - 1).toNat = j := by omega
       have ix2 : (T.size : Int) - 1 = (j : Int) := by omega
       have hj : j < T.size := by omega
       have e1 := e0 hj
       have hTj : (T.size : Int) = (j : Int) + 1 := by omega
       clear hT hT2 sz
       go_wp2
       go_round
       case rel => exact ⟨j, by rw [HT.out], by omega, by omega⟩
       case measure =>
        show T2.size < T.size
        have a := HC.out
        rw [HT.out] at a
        have b := HSZ.out
        omega
     · obtain rfl : k = m := by omega
       have e0 := pre_get (s := u) hk2 (show k - 1 < k by omega)
       have e9 := H2.out
       rw [dgt_lt (by omega)] at e9
       have cE : (((((u[k - 1]'(by omega)).toNat : Nat) : Int)) == 48) = false := beq_eq_false_iff_ne.mpr (by omega)
       obtain ⟨zc, hzc⟩ : ∃ zc, zc = (u[k - 1]'(by omega)).toNat := ⟨_, rfl⟩
       rw [← hzc] at e0 cE
       clear e9 hzc
       obtain ⟨T, hT⟩ : ∃ T, u.extract 0 k = T := ⟨_, rfl⟩
       rw [hT] at sz e0 ⊢
       have hj : k - 1 < T.size := by omega
       have e1 := e0 hj
       have ix : ((T.size : Int) - 1).toNat = k - 1 := by omega
       have ix3 : ((k : Int) - 1).toNat = k - 1 := by omega
       have hTj : (T.size : Int) = (k : Int) := by omega
       have hpos : 0 < T.size := by omega
       have tz : ((T.size : Int) == 0) = false := beq_eq_false_iff_ne.mpr (by omega)
       have HTT : Hid (u.extract 0 k = T) := hT
       clear hT
       have p1 : ¬ p < -1099511627776 := by omega
       have p2 : ¬ 1099511627776 + (z : Int) < p := by have := HR.out; unfold inR at this; omega
       have p3 : ¬ p - (z : Int) < -1099511627776 := by have := HR.out; unfold inR at this; omega
       go_wp2
       refine bodyPost_ret (v := .tuple #[.agg #[.string T, .int .i64 (p - (z : Int)), .bool false], .int .i64 0]) (by simp [results, Tryz.results46, go_sem]) rfl ⟨by rw [HTT.out], ?_⟩
       exact (Below.refl _ _).alloc (Nat.le_refl _) _
theorem dmake_zero {t : ByteArray} {p : Int} (h0 : 0 < t.size) (hl : t.size ≤ 801) (hd : DG t) (hz1 : ∀ i, i < t.size → dgt t i = 48) (w : World) :
 Calls Tryz.prog 40 #[.string t, .int .i64 p, .bool false] w fun e w' => e = .returned (.tuple #[dcV ⟨#[]⟩ 0 false, .nilIface]) ∧ Below w.heap.size w w' := by
 have D := fun W => areDig_yes t (by omega) hd W
 have T := fun W => trimLeft_any t (by omega) t.size (Nat.le_refl _) h0 (fun i h => by rw [← dgt_lt h]; exact hz1 i h) (fun h => by omega) W
 rw [show t.extract t.size t.size = ⟨#[]⟩ from size_zero (by rw [ByteArray.size_extract]; omega)] at T
 clear hz1 hd
 unfold dcV
 go_enter Tryz.func40, Tryz.ntmps40
 go_wp2_with fail
 refine (D _).mono ?_
 rintro e w0 ⟨rfl, rfl⟩
 go_wp2_with fail
 refine (T _).mono ?_
 rintro e w0 ⟨rfl, rfl⟩
 go_wp2
 refine bodyPost_ret (v := .tuple #[.agg #[.string ⟨#[]⟩, .int .i64 0, .bool false], .nilIface]) (by simp [results, Tryz.results40, go_sem]) rfl ⟨rfl, ?_⟩
 exact (Below.refl _ _).alloc (Nat.le_refl _) _
theorem dmake_in {t : ByteArray} {p : Int} (hl : t.size ≤ 801) (hd : DG t) {z : Nat} (hz : z < t.size) (hz1 : ∀ i, i < z → dgt t i = 48) (hz2 : dgt t z ≠ 48) {u : ByteArray} (hu : t.extract z t.size = u)
 {s2 : ByteArray} {c2 : Bool} (S : ∀ W, Calls Tryz.prog 84 #[.string u, .bool false] W fun e w' => e = .returned (.tuple #[.string s2, .bool c2]) ∧ Below W.heap.size W w') (hp0 : -1099511627776 ≤ p) (hp9 : p ≤ 2199023255552) (hr : inR p z) (w : World) :
 Calls Tryz.prog 40 #[.string t, .int .i64 p, .bool false] w fun e w' => e = .returned (.tuple #[dcV s2 (p - (z : Int)) c2, .nilIface]) ∧ Below w.heap.size w w' := by
 have D := fun W => areDig_yes t (by omega) hd W
 have T := fun W => trimLeft_any t (by omega) z (by omega) (by omega) (fun i h => by rw [← dgt_lt (by omega)]; exact hz1 i h) (fun h => by rw [← dgt_lt h]; exact hz2) W
 rw [hu] at T
 have uz : u.size = t.size - z := by rw [← hu]; exact ext_size (by omega)
 have hE := empty_false (s := u) (by omega)
 have e0 : IntKind.i64.wrap ((t.size : Int) - (u.size : Int)) = (z : Int) := by
  unfold IntKind.wrap
  simp [IntKind.bits, IntKind.signed]
  omega
 have E1 : IntKind.i64.wrap ((z : Int) - 1099511627776) = (z : Int) - 1099511627776 := by
  unfold IntKind.wrap
  simp [IntKind.bits, IntKind.signed]
  omega
 have E2 : IntKind.i64.wrap ((z : Int) + 1099511627776) = (z : Int) + 1099511627776 := by
  unfold IntKind.wrap
  simp [IntKind.bits, IntKind.signed]
  omega
 have E3 : IntKind.i64.wrap (p - (z : Int)) = p - (z : Int) := by
  unfold IntKind.wrap
  simp [IntKind.bits, IntKind.signed]
  omega
 obtain ⟨a, e1, ha⟩ : ∃ x : Int, IntKind.i64.wrap ((z : Int) - 1099511627776) = x ∧ x = (z : Int) - 1099511627776 := ⟨_, E1, rfl⟩
 obtain ⟨b, e2, hb'⟩ : ∃ x : Int, IntKind.i64.wrap ((z : Int) + 1099511627776) = x ∧ x = (z : Int) + 1099511627776 := ⟨_, E2, rfl⟩
 obtain ⟨q, e3, hq⟩ : ∃ x : Int, IntKind.i64.wrap (p - (z : Int)) = x ∧ x = p - (z : Int) := ⟨_, E3, rfl⟩
 clear E1 E2 E3
 have r1 : decide (p < a) = false := decide_eq_false (by unfold inR at hr; omega)
 have r2 : decide (b < p) = false := decide_eq_false (by unfold inR at hr; omega)
 rw [← hq]
 clear hz1 hz2 hd hu uz hl hz hp0 hp9 ha hb' hq hr
 unfold dcV
 go_enter Tryz.func40, Tryz.ntmps40
 go_wp2_with fail
 refine (D _).mono ?_
 rintro e w0 ⟨rfl, rfl⟩
 go_wp2_with fail
 refine (T _).mono ?_
 rintro e w0 ⟨rfl, rfl⟩
 go_wp2_with fail
 refine (S _).mono ?_
 rintro e w1 ⟨rfl, hb⟩
 have hs1 : w.heap.size < w1.heap.size := by have := hb.size; simp at this; omega
 obtain ⟨hc, hf⟩ : (∀ o, w1.cell? ⟨w.heap.size, o, none⟩ = (w.alloc (.cells #[.string ⟨#[]⟩, .int .i64 0, .bool false] 24)).cell? ⟨w.heap.size, o, none⟩) ∧ (∀ o, w1.frozen? ⟨w.heap.size, o, none⟩ = (w.alloc (.cells #[.string ⟨#[]⟩, .int .i64 0, .bool false] 24)).frozen? ⟨w.heap.size, o, none⟩) :=
  ⟨fun o => hb.cell (p := ⟨w.heap.size, o, none⟩) (by simp), fun o => hb.frozen (p := ⟨w.heap.size, o, none⟩) (by simp)⟩
 go_wp2
 refine bodyPost_ret (v := .tuple #[.agg #[.string s2, .int .i64 q, .bool c2], .nilIface]) (by simp [results, Tryz.results40, go_sem, hc]) rfl ⟨rfl, ?_⟩
 exact ((((((Below.refl _ _).alloc (Nat.le_refl _) _).trans (hb.mono (by simp))).setCell (Nat.le_refl _) _).setCell (Nat.le_refl _) _).setCell (Nat.le_refl _) _)
end Go.Proofs.YtdfefjcobeopbaaGreatDoor
