/-
  Holds: VEwM IvK IvA IvB IvD.
-/
import Derived.Laws.BitsAllLaws
import Derived.Test.YtohhmobfmmeohaaGreatDoorChecked
import Derived.Lib.ItoaNum
import Derived.Laws.Externs
import Derived.WalkKit
import Derived.WalkSpells
import Derived.WalkLawsBesides
import Derived.Lib.Mul64
import Derived.Lib.TrailingZeros
import Derived.Deep.OwnRows
import Derived.Laws.CopyOwn
import Derived.BigQuiet
import Derived.Deep.RegionHeld3
import Derived.Deep.LoopGhost
import Derived.Deep.AppendLies
import Derived.Deep.DeepCutAuto
import Derived.Stop.Asserts
import Derived.RowKitTokens
import Derived.Lib.Strings
import Derived.Lib.BufferWrite
import Derived.Lib.ConvBytes
import Derived.Test.YtohhmobfmmeohaaGreatDoorRows
import Derived.Test.YtohhmobfmmeohaaGreatDoorKi10
import Derived.Test.YtohhmobfmmeohaaGreatDoorKi13
import Derived.Test.YtohhmobfmmeohaaGreatDoorKi20
import Derived.Test.YtohhmobfmmeohaaGreatDoorKi21
set_option maxRecDepth 100000
set_option maxHeartbeats 4000000
namespace Go.Proofs.YtohhmobfmmeohaaGreatDoor
theorem dgt_dg {s : ByteArray} (h : DG s) (i : Nat) : 48 ≤ dgt s i ∧ dgt s i ≤ 57 := by
 unfold dgt
 split
 · rename_i q; exact h i q
 · omega
def dvA (s : ByteArray) (a : Nat) : Nat → Nat
 | 0 => 0
 | k + 1 => dvA s a k * 10 + (dgt s (a + k) - 48)
theorem dvA_succ (s : ByteArray) (a k : Nat) : dvA s a (k + 1) = dvA s a k * 10 + (dgt s (a + k) - 48) := rfl
theorem dvA_add (s : ByteArray) (a k : Nat) : dvA s 0 (a + k) = dvA s 0 a * 10 ^ k + dvA s a k := by
  induction k with
  | zero => rw [Nat.add_zero, Nat.pow_zero, Nat.mul_one]; rfl
  | succ k ih =>
    rw [← Nat.add_assoc, dvA_succ, dvA_succ, ih, Nat.zero_add, Nat.pow_succ, Nat.add_mul, Nat.mul_assoc]
    omega
theorem dvA_lt {s : ByteArray} (h : DG s) (a k : Nat) : dvA s a k < 10 ^ k := by
  induction k with
  | zero => exact Nat.one_pos
  | succ k ih =>
    have := dgt_dg h (a + k)
    rw [dvA_succ, Nat.pow_succ]
    omega
theorem dgt_row {X K i : Nat} (h : i < K) : dgt (rowText 10 X K) i = 48 + X / 10 ^ (K - 1 - i) % 10 := by
 have hs : i < (rowText 10 X K).size := by rw [rowText_size]; exact h
 rw [dgt_lt hs]
 have l : X / 10 ^ (K - 1 - i) % 10 < 10 := Nat.mod_lt _ (by decide)
 have e : (rowText 10 X K)[i]'hs = UInt8.ofNat (ch (X / 10 ^ (K - 1 - i) % 10)) := by
  unfold rowText strOfNums
  show (List.toArray _)[i]'_ = _
  simp
 rw [e, UInt8.toNat_ofNat']
 unfold ch
 rw [if_pos l]
 exact Nat.mod_eq_of_lt (by omega)
theorem dg_row (X K : Nat) : DG (rowText 10 X K) := by
 intro k h
 have h' : k < K := by rw [rowText_size] at h; exact h
 have e := dgt_row (X := X) h'
 rw [dgt_lt h] at e
 have l : X / 10 ^ (K - 1 - k) % 10 < 10 := Nat.mod_lt _ (by decide)
 omega
theorem dgt_sub {s : ByteArray} {a b i : Nat} (hb : b ≤ s.size) (h : i < b - a) : dgt (s.extract a b) i = dgt s (a + i) := by
 have hs : i < (s.extract a b).size := by rw [ByteArray.size_extract]; omega
 rw [dgt_lt hs, dgt_lt (by omega : a + i < s.size)]
 congr 1
 rw [ByteArray.getElem_extract]
theorem fits_ten {X k n : Nat} (h : X ≤ 10 ^ k) (hn : 4 * k < 32 * n) : Fits n X := by
 refine (two_fits (s := 4 * k) hn).le (Nat.le_trans h ?_)
 rw [Nat.pow_mul]
 exact Nat.pow_le_pow_left (by decide) k
end Go.Proofs.YtohhmobfmmeohaaGreatDoor
namespace Go.Proofs.YtohhmobfmmeohaaGreatDoor
open Go.RowKit
def pwT (j : Nat) : Nat := 10 ^ j
theorem tx_row {X K : Nat} (_ : 1 ≤ K) (h0 : 10 ^ (K - 1) ≤ X) (hX : X < 10 ^ K) : Tx X (rowText 10 X K) := by
  have rs := rowText_size 10 X K
  have key : ∀ k, k ≤ K → pv (rowText 10 X K) k = X / 10 ^ (K - k) := by
    intro k
    induction k with
    | zero => intro _; rw [Nat.sub_zero, Nat.div_eq_of_lt hX]; rfl
    | succ k ih =>
      intro h
      show 10 * pv (rowText 10 X K) k + (dgt (rowText 10 X K) k - 48) = _
      rw [ih (by omega), dgt_row (by omega), Nat.add_sub_cancel_left, show K - k = K - (k + 1) + 1 from by omega, Nat.pow_succ, ← Nat.div_div_eq_div_mul, show K - 1 - k = K - (k + 1) from by omega]
      omega
  refine ⟨by rw [rs]; exact hX, fun _ => by rw [rs]; exact h0, dg_row X K, ?_⟩
  have q := key K (Nat.le_refl _)
  rw [Nat.sub_self, Nat.pow_zero, Nat.div_one] at q
  rw [rs]
  exact q
theorem Tx.len {X K : Nat} {t : ByteArray} (T : Tx X t) (X0 : 0 < X) (hK' : X < pwT K) : 0 < t.size ∧ t.size ≤ K := by
 have hK : X < 10 ^ K := hK'
 have a := T.lt
 have p : 0 < t.size := by
  apply Nat.pos_of_ne_zero
  intro z
  rw [z, Nat.pow_zero] at a
  omega
 refine ⟨p, ?_⟩
 apply Nat.le_of_not_lt
 intro c
 have := Nat.pow_le_pow_right (n := 10) (by decide) (show K ≤ t.size - 1 by omega)
 have := T.lo p
 omega
theorem Tx.first {X : Nat} {t : ByteArray} (T : Tx X t) (h : 0 < t.size) : dgt t 0 ≠ 48 := by
  intro c
  obtain ⟨n, hn⟩ : ∃ n, t.size = 1 + n := ⟨t.size - 1, by omega⟩
  have e : ∀ k, pv t (1 + k) < 10 ^ k := by
    intro k
    induction k with
    | zero =>
      show 10 * 0 + (dgt t 0 - 48) < 10 ^ 0
      rw [c]; decide
    | succ k ih =>
      have := dgt_in T.dg (1 + k)
      show 10 * pv t (1 + k) + (dgt t (1 + k) - 48) < 10 ^ (k + 1)
      rw [Nat.pow_succ]
      omega
  have a := e n
  rw [← hn, T.vl] at a
  have b := T.lo h
  rw [hn, Nat.add_sub_cancel_left] at b
  omega
def Mz (t s2 : ByteArray) : Prop := ∃ m, m ≤ t.size ∧ 0 < m ∧ (∀ i, m ≤ i → i < t.size → dgt t i = 48) ∧ dgt t (m - 1) ≠ 48 ∧ s2 = t.extract 0 m
theorem mz_ex {X : Nat} {t : ByteArray} (T : Tx X t) (h0 : 0 < t.size) (hl : t.size ≤ 800) {p : Int} (lo : (t.size : Int) ≤ p + (R0 : Int)) (hp : p ≤ 2000) :
 ∃ s2, Dx s2 p (X * 10 ^ (p + (R0 : Int) - (t.size : Int)).toNat) ∧ Mz t s2 := by
 have f0 := T.first h0
 obtain ⟨m, hm, h1, h2⟩ := zeros_at t t.size
 have m0 : 0 < m := by
  rcases Nat.eq_zero_or_pos m with c | c
  · exact absurd (h1 0 (by omega) h0) f0
  · exact c
 have z := pre_size (s := t) (k := m) hm
 have lo' : -1100 ≤ p := by unfold R0 at lo; omega
 refine ⟨t.extract 0 m, ⟨Or.inr (nf_vn ⟨by omega, pre_dg T.dg hm, by rw [pre_dgt hm m0]; exact f0, by rw [z, pre_dgt hm (by omega)]; exact h2 m0⟩ (by omega) (by omega) (by omega)), by omega, ?_⟩, m, hm, m0, h1, h2 m0, rfl⟩
 rw [z, pv_ext (s := t.extract 0 m) (t := t) m (fun j hj => pre_dgt hm hj)]
 have q := pv_noughts (s := t) (m := m) (t.size - m) (fun i a b => h1 i a (by omega))
 rw [show m + (t.size - m) = t.size by omega, T.vl] at q
 rw [q, Nat.mul_assoc, ← Nat.pow_add]
 congr 2
 omega
theorem mz_prog {X : Nat} {t s2 : ByteArray} (T : Tx X t) (h0 : 0 < t.size) (hl : t.size ≤ 800) {p : Int} (lo : -2000 ≤ p) (hp : p ≤ 2000) (M : Mz t s2) (W : World) :
 Calls Tryz.prog 69 #[.string t, .int .i64 p, .bool false] W fun e w' => e = .returned (.tuple #[dcV s2 p false, .nilIface]) ∧ Below W.heap.size W w' := by
 obtain ⟨m, hm, m0, h1, h2, rfl⟩ := M
 have ea : t.extract 0 t.size = t := ext_zero t
 have q := dmake_in (t := t) (p := p) (by omega) T.dg (z := 0) h0 (fun i a => absurd a (by omega)) (T.first h0) ea (fun W => shorten_ok t (by omega) m hm (fun i a b => by rw [← dgt_lt b]; exact h1 i a b) (fun c => by rw [← dgt_lt (by omega)]; exact h2) W) (by omega) (by omega) ⟨by omega, by omega⟩ W
 rw [show p - ((0 : Nat) : Int) = p by omega] at q
 exact q
theorem mz_doc {X : Nat} {t s2 : ByteArray} (T : Tx X t) (h0 : 0 < t.size) (hl : t.size ≤ 800) {p : Int} (lo : -2000 ≤ p) (hp : p ≤ 2000) (M : Mz t s2) (W : World) :
 Calls Tryz.prog 58 #[.string t, .int .i64 p, .bool false] W fun e w' => e = .returned (.tuple #[dcV s2 p false, .int .i64 0]) ∧ Below W.heap.size W w' := by
 obtain ⟨m, hm, m0, h1, h2, rfl⟩ := M
 have ea : t.extract 0 t.size = t := ext_zero t
 have q := rmake_in (t := t) (p := p) (by omega) T.dg (z := 0) h0 (fun i a => absurd a (by omega)) (T.first h0) ea hl hm m0 h1 h2 (by omega) (by omega) ⟨by omega, by omega⟩ W
 rw [show p - ((0 : Nat) : Int) = p by omega] at q
 exact q
def wh (m : Nat) (k j : Nat) : Nat := m * 5 ^ k * 2 ^ j
theorem wh_pos {m : Nat} (h : 0 < m) (k j : Nat) : 0 < wh m k j := Nat.mul_pos (Nat.mul_pos h (Nat.pow_pos (by decide))) (Nat.pow_pos (by decide))
def pw5 (j : Nat) : Nat := 5 ^ j
def pw2 (j : Nat) : Nat := 2 ^ j
theorem five_most : pw2 54 * pw5 1075 < pwT 800 := by decide +kernel
theorem two_most : pw2 54 * pw2 971 < pwT 800 := by decide +kernel
theorem five_word : pw2 54 * pw5 1075 < pw2 8192 := by decide +kernel
theorem pw5_mono {a b : Nat} (h : a ≤ b) : pw5 a ≤ pw5 b := Nat.pow_le_pow_right (by decide) h
theorem pw2_mono {a b : Nat} (h : a ≤ b) : pw2 a ≤ pw2 b := Nat.pow_le_pow_right (by decide) h
structure Kj (m k j : Nat) : Prop where
 hm : m ≤ 18014398509481984
 hk : k ≤ 1075
 hj : j ≤ 971
 o : k = 0 ∨ j = 0
theorem Kj.wh {m k j : Nat} (h : Kj m k j) : wh m k j < pwT 800 := by
 have hm : m ≤ pw2 54 := h.hm
 unfold Go.Proofs.YtohhmobfmmeohaaGreatDoor.wh
 rcases h.o with z | z
 · subst z
   rw [Nat.pow_zero, Nat.mul_one]
   exact Nat.lt_of_le_of_lt (Nat.mul_le_mul hm (pw2_mono h.hj)) two_most
 · subst z
   rw [Nat.pow_zero, Nat.mul_one]
   exact Nat.lt_of_le_of_lt (Nat.mul_le_mul hm (pw5_mono h.hk)) five_most
theorem Kj.five {m k j : Nat} (h : Kj m k j) : m * 5 ^ k < pw2 8192 := Nat.lt_of_le_of_lt (Nat.mul_le_mul (show m ≤ pw2 54 from h.hm) (pw5_mono h.hk)) five_word
theorem ten_word : pwT 800 < pw2 8192 := by decide +kernel
theorem Kj.fv {m k j : Nat} (h : Kj m k j) {e : Int} (he : e = (j : Int) - (k : Int)) : fv m e = Go.Proofs.YtohhmobfmmeohaaGreatDoor.wh m k j * 10 ^ (R0 - k) := by
 unfold Go.Proofs.YtohhmobfmmeohaaGreatDoor.wh
 rcases h.o with z | z
 · subst z
   rw [show e = (j : Int) by omega, fv_nat, Nat.pow_zero, Nat.mul_one, Nat.sub_zero]
 · subst z
   rw [show e = -(k : Int) by omega, fv_neg (by have := h.hk; unfold R0; omega), Nat.pow_zero, Nat.mul_one]
theorem Kj.lens {m k j : Nat} (h : Kj m k j) (m0 : 0 < m) {t : ByteArray} (T : Tx (Go.Proofs.YtohhmobfmmeohaaGreatDoor.wh m k j) t) : 0 < t.size ∧ t.size ≤ 800 := T.len (wh_pos m0 k j) h.wh
theorem Kj.mz {m k j : Nat} (h : Kj m k j) (m0 : 0 < m) {s : ByteArray} {q : Int} (D : Dx s q (Go.Proofs.YtohhmobfmmeohaaGreatDoor.fv m ((j : Int) - (k : Int)))) {t : ByteArray} (T : Tx (Go.Proofs.YtohhmobfmmeohaaGreatDoor.wh m k j) t) : q = (t.size : Int) - (k : Int) ∧ Mz t s := by
 obtain ⟨a, b⟩ := h.lens m0 T
 have hk := h.hk
 obtain ⟨s2, D2, M⟩ := mz_ex T a b (p := (t.size : Int) - (k : Int)) (by unfold R0; omega) (by omega)
 rw [show ((t.size : Int) - (k : Int) + (R0 : Int) - (t.size : Int)).toNat = R0 - k by omega, ← h.fv rfl] at D2
 obtain ⟨rfl, e⟩ := D2.uniq D
 exact ⟨e.symm, M⟩
theorem Kj.make {m k j : Nat} (h : Kj m k j) (m0 : 0 < m) {s : ByteArray} {q : Int} (D : Dx s q (Go.Proofs.YtohhmobfmmeohaaGreatDoor.fv m ((j : Int) - (k : Int)))) {t : ByteArray} (T : Tx (Go.Proofs.YtohhmobfmmeohaaGreatDoor.wh m k j) t) (W : World) :
 Calls Tryz.prog 69 #[.string t, .int .i64 ((t.size : Int) - (k : Int)), .bool false] W fun e w' => e = .returned (.tuple #[dcV s q false, .nilIface]) ∧ Below W.heap.size W w' := by
 obtain ⟨a, b⟩ := h.lens m0 T
 have hk := h.hk
 obtain ⟨e, M⟩ := h.mz m0 D T
 rw [e]
 exact mz_prog T a b (by omega) (by omega) M W
theorem Kj.rmake {m k j : Nat} (h : Kj m k j) (m0 : 0 < m) {s : ByteArray} {q : Int} (D : Dx s q (Go.Proofs.YtohhmobfmmeohaaGreatDoor.fv m ((j : Int) - (k : Int)))) {t : ByteArray} (T : Tx (Go.Proofs.YtohhmobfmmeohaaGreatDoor.wh m k j) t) (W : World) :
 Calls Tryz.prog 58 #[.string t, .int .i64 ((t.size : Int) - (k : Int)), .bool false] W fun e w' => e = .returned (.tuple #[dcV s q false, .int .i64 0]) ∧ Below W.heap.size W w' := by
 obtain ⟨a, b⟩ := h.lens m0 T
 have hk := h.hk
 obtain ⟨e, M⟩ := h.mz m0 D T
 rw [e]
 exact mz_doc T a b (by omega) (by omega) M W
theorem dx_has {m : Nat} {e : Int} (hm : m ≤ 18014398509481984) (h1 : -1075 ≤ e) (h2 : e ≤ 971) : ∃ s q, Dx s q (fv m e) := by
  by_cases m0 : 0 < m
  · obtain ⟨k, j, h, he⟩ : ∃ k j, Kj m k j ∧ e = (j : Int) - (k : Int) := by
      rcases Int.lt_or_le e 0 with c | c
      · exact ⟨(-e).toNat, 0, ⟨hm, by omega, by omega, Or.inr rfl⟩, by omega⟩
      · exact ⟨0, e.toNat, ⟨hm, by omega, by omega, Or.inl rfl⟩, by omega⟩
    have wp := wh_pos m0 k j
    obtain ⟨K, k1, k2, k3⟩ : ∃ K, 1 ≤ K ∧ 10 ^ (K - 1) ≤ wh m k j ∧ wh m k j < 10 ^ K := by
      have key : ∀ n, wh m k j < pwT n → ∃ K, 1 ≤ K ∧ 10 ^ (K - 1) ≤ wh m k j ∧ wh m k j < 10 ^ K := by
        intro n
        induction n with
        | zero => intro g; have g' : wh m k j < 1 := g; omega
        | succ n ih =>
          intro g
          by_cases c : wh m k j < pwT n
          · exact ih c
          · exact ⟨n + 1, by omega, by rw [Nat.add_sub_cancel]; exact Nat.le_of_not_lt c, g⟩
      exact key 800 h.wh
    have T := tx_row k1 k2 k3
    have a := h.lens m0 T
    rw [rowText_size] at a
    have hk := h.hk
    obtain ⟨s2, D2, _⟩ := mz_ex T (by rw [rowText_size]; omega) (by rw [rowText_size]; omega) (p := (K : Int) - (k : Int)) (by rw [rowText_size]; unfold R0; omega) (by omega)
    rw [rowText_size, show ((K : Int) - (k : Int) + (R0 : Int) - (K : Int)).toNat = R0 - k by omega, ← h.fv he] at D2
    exact ⟨_, _, D2⟩
  · obtain rfl : m = 0 := by omega
    rw [fv_zero]
    exact ⟨_, _, dx_nought⟩
structure Bk (W : World) (K : Nat) (l : List Value) : Prop where
 lt : K < W.heap.size
 cell : ∀ i v, l[i]? = some v → W.cell? ⟨K, i, none⟩ = some v
 fz : ∀ i, W.frozen? ⟨K, i, none⟩ = false
theorem Bk.step {W W' : World} {K : Nat} {l : List Value} (h : Bk W K l) (hb : Below W.heap.size W W') : Bk W' K l :=
 ⟨Nat.lt_of_lt_of_le h.lt hb.size, fun i v q => (hb.cell (p := ⟨K, i, none⟩) h.lt).trans (h.cell i v q), fun i => (hb.frozen (p := ⟨K, i, none⟩) h.lt).trans (h.fz i)⟩
theorem Bk.new3 (W : World) (a b c : Value) (T : TypeId) : Bk (W.alloc (.cells #[a, b, c] T)) W.heap.size [a, b, c] :=
 ⟨by simp, fun i v q => by
  match i, q with
  | 0, q => cases q; simp
  | 1, q => cases q; simp
  | 2, q => cases q; simp
  | n + 3, q => simp at q, fun i => World.frozen?_alloc_new _ _ _ _⟩
theorem Bk.new4 (W : World) (a b c d : Value) (T : TypeId) : Bk (W.alloc (.cells #[a, b, c, d] T)) W.heap.size [a, b, c, d] :=
 ⟨by simp, fun i v q => by
  match i, q with
  | 0, q => cases q; simp
  | 1, q => cases q; simp
  | 2, q => cases q; simp
  | 3, q => cases q; simp
  | n + 4, q => simp at q, fun i => World.frozen?_alloc_new _ _ _ _⟩
theorem Bp2 (q : Nat) : B ^ q = pw2 (64 * q) := B_pow q
theorem Kj.nat {m k j : Nat} (h : Kj m k j) : 5 ^ k < B ^ 128 ∧ m * 5 ^ k < B ^ 128 ∧ m * 5 ^ k * 2 ^ j < B ^ 128 := by
 have e : B ^ 128 = pw2 8192 := by
  rw [Bp2]
 have p : 0 < pw2 54 := by decide +kernel
 have z : pw5 k < pw2 8192 := Nat.lt_of_le_of_lt (Nat.le_trans (pw5_mono h.hk) (Nat.le_mul_of_pos_left (pw5 1075) p)) five_word
 rw [e]
 exact ⟨z, h.five, Nat.lt_trans h.wh ten_word⟩
theorem pdec_ok {m k j : Nat} (h : Kj m k j) (m0 : 0 < m) {e : Int} (he : e = (j : Int) - (k : Int)) {s : ByteArray} {q : Int} (D : Dx s q (fv m e)) (w : World) :
 Calls Tryz.prog 44 #[.int .u64 (m : Int), .int .i64 e] w fun x w' => x = .returned (dcV s q false) ∧ Below w.heap.size w w' := by
 rw [he] at D
 obtain ⟨f1, f2, f3⟩ := h.nat
 have hk := h.hk
 have hj := h.hj
 have PW := fun W => power_ok 5 k (by unfold B; decide) (by omega) f1 W
 have OF := fun W => of_any m (by have := h.hm; unfold B; omega) W
 simp only [Int.cast_ofNat_Int] at PW
 have HM : Hid (m * 5 ^ k < B ^ 128 ∧ m * 5 ^ k * 2 ^ j < B ^ 128) := ⟨f2, f3⟩
 have HX : Hid (wh m k j ≠ 0 ∧ m * 5 ^ k * 2 ^ j = wh m k j ∧ ∀ K, 1 ≤ K → 10 ^ (K - 1) ≤ wh m k j → wh m k j < 10 ^ K → (rowText 10 (wh m k j) K).size = K ∧ K ≤ 800 ∧ ∀ W, Calls Tryz.prog 69 #[.string (rowText 10 (wh m k j) K), .int .i64 ((K : Int) - (k : Int)), .bool false] W fun e w' => e = .returned (.tuple #[dcV s q false, .nilIface]) ∧ Below W.heap.size W w') := by
  refine ⟨Nat.ne_of_gt (wh_pos m0 k j), rfl, fun K k1 k2 k3 => ?_⟩
  have T := tx_row k1 k2 k3
  have rs := rowText_size 10 (wh m k j) K
  obtain ⟨a, b⟩ := h.lens m0 T
  refine ⟨rs, by omega, fun W => ?_⟩
  have M := h.make m0 D T W
  rw [rs] at M
  exact M
 have HO : Hid (k = 0 ∨ j = 0) := h.o
 have HE : Hid (e = (j : Int) - (k : Int)) := he
 clear f1 f2 f3 D h m0 he
 unfold dcV at *
 generalize wh m k j = X at *
 generalize 5 ^ k = F at *
 have F0 : Hid (Bk (w.alloc (.cells #[.string ⟨#[]⟩, .int .i64 0, .bool false] 24)) w.heap.size [.string ⟨#[]⟩, .int .i64 0, .bool false] ∧ Below w.heap.size w (w.alloc (.cells #[.string ⟨#[]⟩, .int .i64 0, .bool false] 24))) := ⟨Bk.new3 w _ _ _ _, (Below.refl _ _).alloc (Nat.le_refl _) _⟩
 go_enter Tryz.func44, Tryz.ntmps44
 go_upto_region 1 with fail
 generalize (w.alloc (.cells #[.string ⟨#[]⟩, .int .i64 0, .bool false] 24)) = w0 at *
 go_cut [5] (fun pv wx => wx = w0 ∧ pv = .int .i64 (k : Int))
 case first =>
  go_wp2
  all_goals go_meet
  all_goals exact ⟨rfl, congrArg (Value.int .i64) (by have := HE.out; have := HO.out; have := IntWalk.wrap64_in (-e) ⟨by omega, by omega⟩; omega)⟩
 case rest =>
 obtain ⟨hcw, rfl⟩ := hcut
 have hcw2 := hcw.symm
 subst hcw2
 go_wp2_with fail
 refine (PW _).mono ?_
 rintro o w1 ⟨v1, rfl, n1, b1⟩
 have F1 : Hid (Bk w1 w.heap.size [.string ⟨#[]⟩, .int .i64 0, .bool false] ∧ Below w.heap.size w w1 ∧ NatV w1 v1 F) := ⟨F0.out.1.step b1, F0.out.2.trans (b1.mono F0.out.2.size), n1⟩
 clear b1 n1 PW F0
 go_wp2_with fail
 refine (OF _).mono ?_
 rintro o w2 ⟨v2, rfl, n2, b2⟩
 have F2 : Hid (Bk w2 w.heap.size [.string ⟨#[]⟩, .int .i64 0, .bool false] ∧ Below w.heap.size w w2 ∧ NatV w2 v1 F ∧ NatV w2 v2 m) := ⟨F1.out.1.step b2, F1.out.2.1.trans (b2.mono F1.out.2.1.size), F1.out.2.2.below b2, n2⟩
 clear b2 n2 OF F1
 have MU := mul_ok F2.out.2.2.2 F2.out.2.2.1 HM.out.1
 go_wp2_with fail
 refine MU.mono ?_
 rintro o w3 ⟨v3, rfl, n3, b3⟩
 have F3 : Hid (Bk w3 w.heap.size [.string ⟨#[]⟩, .int .i64 0, .bool false] ∧ Below w.heap.size w w3 ∧ NatV w3 v3 (m * F)) := ⟨F2.out.1.step b3, F2.out.2.1.trans (b3.mono F2.out.2.1.size), n3⟩
 clear b3 n3 MU F2
 have SH : ∀ x : Int, x = (j : Int) → Calls Tryz.prog 67 #[v3, .int .i64 x] w3 fun e w' => ∃ v, e = .returned (.tuple #[v, .nilIface]) ∧ NatV w' v X ∧ Below w3.heap.size w3 w' := fun x hx => by
  subst hx
  have q := shl_ok F3.out.2.2 j HM.out.2 (by omega)
  rw [HX.out.2.1] at q
  exact q
 go_wp2_with fail
 all_goals
  refine (SH _ ?_).mono ?_
  · have := HE.out; have := HO.out; omega
  rintro o w4 ⟨v4, rfl, n4, b4⟩
  have F4 : Hid (Bk w4 w.heap.size [.string ⟨#[]⟩, .int .i64 0, .bool false] ∧ Below w.heap.size w w4 ∧ NatV w4 v4 X) := ⟨F3.out.1.step b4, F3.out.2.1.trans (b4.mono F3.out.2.1.size), n4⟩
  clear b4 n4 SH F3
  have DG := digits_any F4.out.2.2 HX.out.1 10 (by decide) (by decide)
  simp only [Int.cast_ofNat_Int] at DG
  go_wp2_with fail
  refine DG.mono ?_
  rintro o w5 ⟨K, rfl, k1, k2, k3, b5⟩
  obtain ⟨rs, k8, MK⟩ := HX.out.2.2 K k1 k2 k3
  have F5 : Hid (Bk w5 w.heap.size [.string ⟨#[]⟩, .int .i64 0, .bool false] ∧ Below w.heap.size w w5) := ⟨F4.out.1.step b5, F4.out.2.1.trans (b5.mono F4.out.2.1.size)⟩
  clear b5 DG F4 k1 k2 k3 HX HM HE HO
  generalize rowText 10 X K = rt at *
  go_wp2_with fail
  refine (MK _).mono ?_
  rintro o w6 ⟨rfl, b6⟩
  have F6 : Hid (Bk w6 w.heap.size [.string ⟨#[]⟩, .int .i64 0, .bool false] ∧ Below w.heap.size w w6) := ⟨F5.out.1.step b6, F5.out.2.trans (b6.mono F5.out.2.size)⟩
  clear b6 MK F5
  have l6 := F6.out.1.lt
  have a0 := F6.out.1.cell 0 _ rfl
  have a1 := F6.out.1.cell 1 _ rfl
  have a2 := F6.out.1.cell 2 _ rfl
  have f0 := F6.out.1.fz 0
  have f1 := F6.out.1.fz 1
  have f2 := F6.out.1.fz 2
  go_wp2
  exact bodyPost_ret (v := .agg #[.string s, .int .i64 q, .bool false]) (by simp [results, Tryz.results44, go_sem, World.cell?_setCell_same, World.cell?_setCell_other, *]) rfl ⟨rfl, (((F6.out.2.setCell (Nat.le_refl _) _).setCell (Nat.le_refl _) _).setCell (Nat.le_refl _) _).alloc (by simpa using F6.out.2.size) _⟩
theorem dg_nought : DG ⟨#[48]⟩ := by
 intro k h
 obtain rfl : k = 0 := by have : k < 1 := h; omega
 exact (by decide : 48 ≤ (48 : UInt8).toNat ∧ (48 : UInt8).toNat ≤ 57)
theorem pdec_zero {k : Nat} (k0 : 0 < k) (hk : k ≤ 1075) (w : World) :
 Calls Tryz.prog 44 #[.int .u64 0, .int .i64 (-(k : Int))] w fun x w' => x = .returned (dcV ⟨#[]⟩ 0 false) ∧ Below w.heap.size w w' := by
 have KJ : Kj 0 k 0 := ⟨Nat.zero_le _, hk, Nat.zero_le _, Or.inr rfl⟩
 obtain ⟨f1, f2, f3⟩ := KJ.nat
 have PW := fun W => power_ok 5 k (by unfold B; decide) (by omega) f1 W
 have OF := fun W => of_any 0 (by unfold B; omega) W
 simp only [Int.cast_ofNat_Int] at PW OF
 rw [Nat.zero_mul] at f2
 have HM : Hid (0 < B ^ 128) := f2
 have MK : ∀ W, Calls Tryz.prog 69 #[.string ⟨#[48]⟩, .int .i64 (1 - (k : Int)), .bool false] W fun e w' => e = .returned (.tuple #[dcV ⟨#[]⟩ 0 false, .nilIface]) ∧ Below W.heap.size W w' := fun W =>
  dmake_zero (t := ⟨#[48]⟩) (by decide) (by decide) dg_nought (fun i hi => by
   have : i = 0 := by have : i < 1 := hi; omega
   subst this
   decide) W
 clear f1 f2 f3 KJ
 unfold dcV at *
 generalize 5 ^ k = F at *
 have F0 : Hid (Bk (w.alloc (.cells #[.string ⟨#[]⟩, .int .i64 0, .bool false] 24)) w.heap.size [.string ⟨#[]⟩, .int .i64 0, .bool false] ∧ Below w.heap.size w (w.alloc (.cells #[.string ⟨#[]⟩, .int .i64 0, .bool false] 24))) := ⟨Bk.new3 w _ _ _ _, (Below.refl _ _).alloc (Nat.le_refl _) _⟩
 go_enter Tryz.func44, Tryz.ntmps44
 go_upto_region 1 with fail
 generalize (w.alloc (.cells #[.string ⟨#[]⟩, .int .i64 0, .bool false] 24)) = w0 at *
 go_cut [5] (fun pv wx => wx = w0 ∧ pv = .int .i64 (k : Int))
 case first =>
  go_wp2
  all_goals go_meet
  all_goals exact ⟨rfl, congrArg (Value.int .i64) (by omega)⟩
 case rest =>
 obtain ⟨hcw, rfl⟩ := hcut
 have hcw2 := hcw.symm
 subst hcw2
 go_wp2_with fail
 refine (PW _).mono ?_
 rintro o w1 ⟨v1, rfl, n1, b1⟩
 have F1 : Hid (Bk w1 w.heap.size [.string ⟨#[]⟩, .int .i64 0, .bool false] ∧ Below w.heap.size w w1 ∧ NatV w1 v1 F) := ⟨F0.out.1.step b1, F0.out.2.trans (b1.mono F0.out.2.size), n1⟩
 clear b1 n1 PW F0
 go_wp2_with fail
 refine (OF _).mono ?_
 rintro o w2 ⟨v2, rfl, n2, b2⟩
 have F2 : Hid (Bk w2 w.heap.size [.string ⟨#[]⟩, .int .i64 0, .bool false] ∧ Below w.heap.size w w2 ∧ NatV w2 v1 F ∧ NatV w2 v2 0) := ⟨F1.out.1.step b2, F1.out.2.1.trans (b2.mono F1.out.2.1.size), F1.out.2.2.below b2, n2⟩
 clear b2 n2 OF F1
 have MU := mul_ok F2.out.2.2.2 F2.out.2.2.1 (by rw [Nat.zero_mul]; exact HM.out)
 rw [Nat.zero_mul] at MU
 go_wp2_with fail
 refine MU.mono ?_
 rintro o w3 ⟨v3, rfl, n3, b3⟩
 have F3 : Hid (Bk w3 w.heap.size [.string ⟨#[]⟩, .int .i64 0, .bool false] ∧ Below w.heap.size w w3 ∧ NatV w3 v3 0) := ⟨F2.out.1.step b3, F2.out.2.1.trans (b3.mono F2.out.2.1.size), n3⟩
 clear b3 n3 MU F2
 have SH := shl_ok F3.out.2.2 0 (by rw [Nat.zero_mul]; exact HM.out) (by omega)
 rw [Nat.zero_mul] at SH
 simp only [Int.cast_ofNat_Int] at SH
 go_wp2_with fail
 all_goals first | (exfalso; omega) | skip
 refine SH.mono ?_
 rintro o w4 ⟨v4, rfl, n4, b4⟩
 obtain ⟨ao, n, c, b, o, f, rfl, S, tp, hv, _⟩ := n4
 obtain rfl : n = 0 := by
  apply Nat.eq_zero_of_not_pos
  intro z
  have q := Top_ge tp z
  have := Nat.pow_pos (n := n - 1) B_pos
  omega
 have F4 : Hid (Bk w4 w.heap.size [.string ⟨#[]⟩, .int .i64 0, .bool false] ∧ Below w.heap.size w w4) := ⟨F3.out.1.step b4, F3.out.2.1.trans (b4.mono F3.out.2.1.size)⟩
 have DG := digits_zero S 10 (by decide) (by decide)
 simp only [Int.cast_ofNat_Int] at DG
 clear b4 S tp hv SH F3
 go_wp2_with fail
 refine DG.mono ?_
 rintro o w5 ⟨rfl, b5⟩
 have F5 : Hid (Bk w5 w.heap.size [.string ⟨#[]⟩, .int .i64 0, .bool false] ∧ Below w.heap.size w w5) := ⟨F4.out.1.step b5, F4.out.2.trans (b5.mono F4.out.2.size)⟩
 clear b5 DG F4 HM
 go_wp2_with fail
 refine (MK _).mono ?_
 rintro o w6 ⟨rfl, b6⟩
 have F6 : Hid (Bk w6 w.heap.size [.string ⟨#[]⟩, .int .i64 0, .bool false] ∧ Below w.heap.size w w6) := ⟨F5.out.1.step b6, F5.out.2.trans (b6.mono F5.out.2.size)⟩
 clear b6 MK F5
 have l6 := F6.out.1.lt
 have a0 := F6.out.1.cell 0 _ rfl
 have a1 := F6.out.1.cell 1 _ rfl
 have a2 := F6.out.1.cell 2 _ rfl
 have f0 := F6.out.1.fz 0
 have f1 := F6.out.1.fz 1
 have f2 := F6.out.1.fz 2
 go_wp2
 exact bodyPost_ret (v := .agg #[.string ⟨#[]⟩, .int .i64 0, .bool false]) (by simp [results, Tryz.results44, go_sem, World.cell?_setCell_same, World.cell?_setCell_other, *]) rfl ⟨rfl, (((F6.out.2.setCell (Nat.le_refl _) _).setCell (Nat.le_refl _) _).setCell (Nat.le_refl _) _).alloc (by simpa using F6.out.2.size) _⟩
theorem pdec_any {m : Nat} {e : Int} (hm : m ≤ 18014398509481984) (h1 : -1075 ≤ e) (h2 : e ≤ 971) (h0 : 0 < m ∨ e < 0) {s : ByteArray} {q : Int} (D : Dx s q (fv m e)) (w : World) :
 Calls Tryz.prog 44 #[.int .u64 (m : Int), .int .i64 e] w fun x w' => x = .returned (dcV s q false) ∧ Below w.heap.size w w' := by
 by_cases m0 : 0 < m
 · rcases Int.lt_or_le e 0 with c | c
   · exact pdec_ok (k := (-e).toNat) (j := 0) ⟨hm, by omega, by omega, Or.inr rfl⟩ m0 (by omega) D w
   · exact pdec_ok (k := 0) (j := e.toNat) ⟨hm, by omega, by omega, Or.inl rfl⟩ m0 (by omega) D w
 · obtain rfl : m = 0 := by omega
   obtain ⟨k, rfl⟩ : ∃ k : Nat, e = -(k : Int) := ⟨(-e).toNat, by omega⟩
   rw [fv_zero] at D
   obtain ⟨rfl, rfl⟩ := D.uniq dx_nought
   exact pdec_zero (by omega) (by omega) w
theorem fin_err {b z : Int} {n : Int} (HU : ∀ W, Calls Tryz.prog 62 #[.int .u64 b, .int .i64 z] W fun e w' => e = .returned (.tuple #[.agg #[.bool false, .int .i64 0, .int .u64 0, .int .i64 0], .iface 57 (.int .i64 n)]) ∧ Below W.heap.size W w') (w : World) :
 Calls Tryz.prog 43 #[.int .u64 b, .int .i64 z] w fun x w' => x = .returned (.tuple #[.agg #[.bool false, .int .i64 0, .int .u64 0, .int .i64 0], .iface 57 (.int .i64 n)]) ∧ Below w.heap.size w w' := by
 have F0 : Hid (Bk (w.alloc (.cells #[.bool false, .int .i64 0, .int .u64 0, .int .i64 0] 63)) (w.heap.size) [.bool false, .int .i64 0, .int .u64 0, .int .i64 0] ∧ Below w.heap.size w (w.alloc (.cells #[.bool false, .int .i64 0, .int .u64 0, .int .i64 0] 63))) := ⟨Bk.new4 w (.bool false) (.int .i64 0) (.int .u64 0) (.int .i64 0) 63, ((Below.refl w.heap.size w)).alloc (Nat.le_refl _) _⟩
 go_enter Tryz.func43, Tryz.ntmps43
 go_upto_region 1 with fail
 generalize (w.alloc (.cells #[.bool false, .int .i64 0, .int .u64 0, .int .i64 0] 63)) = w1 at *
 go_wp2_with fail
 all_goals first | (exfalso; omega) | skip
 refine (HU _).mono ?_
 rintro o2 w2 ⟨rfl, bb⟩
 have F1 : Hid (Bk w2 (w.heap.size) [.bool false, .int .i64 0, .int .u64 0, .int .i64 0] ∧ Below w.heap.size w w2) := ⟨(F0.out.1).step bb, (F0.out.2).trans (bb.mono (F0.out.2).size)⟩
 clear F0
 clear bb
 have lt0_1 := (F1.out.1).lt
 have le1 := (F1.out.2).size
 have F2 : Hid (Bk (w2.alloc (.cells #[.bool false, .int .i64 0, .int .u64 0, .int .i64 0] 63)) (w.heap.size) [.bool false, .int .i64 0, .int .u64 0, .int .i64 0] ∧ Bk (w2.alloc (.cells #[.bool false, .int .i64 0, .int .u64 0, .int .i64 0] 63)) (w2.heap.size) [.bool false, .int .i64 0, .int .u64 0, .int .i64 0] ∧ Below w.heap.size w (w2.alloc (.cells #[.bool false, .int .i64 0, .int .u64 0, .int .i64 0] 63))) := ⟨(F1.out.1).step ((Below.refl _ _).alloc (Nat.le_refl _) _), Bk.new4 w2 (.bool false) (.int .i64 0) (.int .u64 0) (.int .i64 0) 63, (F1.out.2).alloc ((F1.out.2).size) _⟩
 clear F1
 go_upto_region 2 with fail
 generalize (w2.alloc (.cells #[.bool false, .int .i64 0, .int .u64 0, .int .i64 0] 63)) = w3 at *
 have l1_0 := F2.out.1.lt
 have a1_0_0 := F2.out.1.cell 0 _ rfl
 have f1_0_0 := F2.out.1.fz 0
 have a1_0_1 := F2.out.1.cell 1 _ rfl
 have f1_0_1 := F2.out.1.fz 1
 have a1_0_2 := F2.out.1.cell 2 _ rfl
 have f1_0_2 := F2.out.1.fz 2
 have a1_0_3 := F2.out.1.cell 3 _ rfl
 have f1_0_3 := F2.out.1.fz 3
 have l1_1 := F2.out.2.1.lt
 have a1_1_0 := F2.out.2.1.cell 0 _ rfl
 have f1_1_0 := F2.out.2.1.fz 0
 have a1_1_1 := F2.out.2.1.cell 1 _ rfl
 have f1_1_1 := F2.out.2.1.fz 1
 have a1_1_2 := F2.out.2.1.cell 2 _ rfl
 have f1_1_2 := F2.out.2.1.fz 2
 have a1_1_3 := F2.out.2.1.cell 3 _ rfl
 have f1_1_3 := F2.out.2.1.fz 3
 have ne1_0_1 : ¬ w.heap.size = w2.heap.size := by omega
 have ne1_1_0 : ¬ w2.heap.size = w.heap.size := by omega
 go_wp2
 refine bodyPost_ret (v := .tuple #[.agg #[.bool false, .int .i64 0, .int .u64 0, .int .i64 0], .iface 57 (.int .i64 n)]) (by simp [results, Tryz.results43, go_sem, World.cell?_setCell_same, World.cell?_setCell_other, *]) rfl ⟨rfl, ?_⟩
 repeat (first | refine Below.setCell ?_ (by first | exact Nat.le_refl _ | (dsimp only; omega)) _ | refine Below.alloc ?_ (by first | exact Nat.le_refl _ | omega | (simp; omega)) _ | refine Below.drew ?_)
 exact F2.out.2.2
theorem fin_fine {b z : Int} {c : Bool} {M E : Int} (HU : ∀ W, Calls Tryz.prog 62 #[.int .u64 b, .int .i64 z] W fun e w' => e = .returned (.tuple #[.agg #[.bool c, .int .i64 2, .int .u64 M, .int .i64 E], .nilIface]) ∧ Below W.heap.size W w') (w : World) :
 Calls Tryz.prog 43 #[.int .u64 b, .int .i64 z] w fun x w' => x = .returned (.tuple #[.agg #[.bool c, .int .i64 2, .int .u64 M, .int .i64 E], .nilIface]) ∧ Below w.heap.size w w' := by
 have F0 : Hid (Bk (w.alloc (.cells #[.bool false, .int .i64 0, .int .u64 0, .int .i64 0] 63)) (w.heap.size) [.bool false, .int .i64 0, .int .u64 0, .int .i64 0] ∧ Below w.heap.size w (w.alloc (.cells #[.bool false, .int .i64 0, .int .u64 0, .int .i64 0] 63))) := ⟨Bk.new4 w (.bool false) (.int .i64 0) (.int .u64 0) (.int .i64 0) 63, ((Below.refl w.heap.size w)).alloc (Nat.le_refl _) _⟩
 go_enter Tryz.func43, Tryz.ntmps43
 go_upto_region 1 with fail
 generalize (w.alloc (.cells #[.bool false, .int .i64 0, .int .u64 0, .int .i64 0] 63)) = w1 at *
 go_wp2_with fail
 all_goals first | (exfalso; omega) | skip
 refine (HU _).mono ?_
 rintro o2 w2 ⟨rfl, bb⟩
 have F1 : Hid (Bk w2 (w.heap.size) [.bool false, .int .i64 0, .int .u64 0, .int .i64 0] ∧ Below w.heap.size w w2) := ⟨(F0.out.1).step bb, (F0.out.2).trans (bb.mono (F0.out.2).size)⟩
 clear F0
 clear bb
 have lt0_1 := (F1.out.1).lt
 have le1 := (F1.out.2).size
 have F2 : Hid (Bk (w2.alloc (.cells #[.bool c, .int .i64 2, .int .u64 M, .int .i64 E] 63)) (w.heap.size) [.bool false, .int .i64 0, .int .u64 0, .int .i64 0] ∧ Bk (w2.alloc (.cells #[.bool c, .int .i64 2, .int .u64 M, .int .i64 E] 63)) (w2.heap.size) [.bool c, .int .i64 2, .int .u64 M, .int .i64 E] ∧ Below w.heap.size w (w2.alloc (.cells #[.bool c, .int .i64 2, .int .u64 M, .int .i64 E] 63))) := ⟨(F1.out.1).step ((Below.refl _ _).alloc (Nat.le_refl _) _), Bk.new4 w2 (.bool c) (.int .i64 2) (.int .u64 M) (.int .i64 E) 63, (F1.out.2).alloc ((F1.out.2).size) _⟩
 clear F1
 go_upto_region 2 with fail
 generalize (w2.alloc (.cells #[.bool c, .int .i64 2, .int .u64 M, .int .i64 E] 63)) = w3 at *
 have l1_0 := F2.out.1.lt
 have a1_0_0 := F2.out.1.cell 0 _ rfl
 have f1_0_0 := F2.out.1.fz 0
 have a1_0_1 := F2.out.1.cell 1 _ rfl
 have f1_0_1 := F2.out.1.fz 1
 have a1_0_2 := F2.out.1.cell 2 _ rfl
 have f1_0_2 := F2.out.1.fz 2
 have a1_0_3 := F2.out.1.cell 3 _ rfl
 have f1_0_3 := F2.out.1.fz 3
 have l1_1 := F2.out.2.1.lt
 have a1_1_0 := F2.out.2.1.cell 0 _ rfl
 have f1_1_0 := F2.out.2.1.fz 0
 have a1_1_1 := F2.out.2.1.cell 1 _ rfl
 have f1_1_1 := F2.out.2.1.fz 1
 have a1_1_2 := F2.out.2.1.cell 2 _ rfl
 have f1_1_2 := F2.out.2.1.fz 2
 have a1_1_3 := F2.out.2.1.cell 3 _ rfl
 have f1_1_3 := F2.out.2.1.fz 3
 have ne1_0_1 : ¬ w.heap.size = w2.heap.size := by omega
 have ne1_1_0 : ¬ w2.heap.size = w.heap.size := by omega
 go_wp2
 refine bodyPost_ret (v := .tuple #[.agg #[.bool c, .int .i64 2, .int .u64 M, .int .i64 E], .nilIface]) (by simp [results, Tryz.results43, go_sem, World.cell?_setCell_same, World.cell?_setCell_other, *]) rfl ⟨rfl, ?_⟩
 repeat (first | refine Below.setCell ?_ (by first | exact Nat.le_refl _ | (dsimp only; omega)) _ | refine Below.alloc ?_ (by first | exact Nat.le_refl _ | omega | (simp; omega)) _ | refine Below.drew ?_)
 exact F2.out.2.2
theorem fin_not {b z : Int} {c : Bool} {k : Int} (q1 : (k == 2) = false) (q2 : (k == 1) = false) (HU : ∀ W, Calls Tryz.prog 62 #[.int .u64 b, .int .i64 z] W fun e w' => e = .returned (.tuple #[.agg #[.bool c, .int .i64 k, .int .u64 0, .int .i64 0], .nilIface]) ∧ Below W.heap.size W w') (w : World) :
 Calls Tryz.prog 43 #[.int .u64 b, .int .i64 z] w fun x w' => x = .returned (.tuple #[.agg #[.bool false, .int .i64 0, .int .u64 0, .int .i64 0], .iface 57 (.int .i64 1)]) ∧ Below w.heap.size w w' := by
 have F0 : Hid (Bk (w.alloc (.cells #[.bool false, .int .i64 0, .int .u64 0, .int .i64 0] 63)) (w.heap.size) [.bool false, .int .i64 0, .int .u64 0, .int .i64 0] ∧ Below w.heap.size w (w.alloc (.cells #[.bool false, .int .i64 0, .int .u64 0, .int .i64 0] 63))) := ⟨Bk.new4 w (.bool false) (.int .i64 0) (.int .u64 0) (.int .i64 0) 63, ((Below.refl w.heap.size w)).alloc (Nat.le_refl _) _⟩
 go_enter Tryz.func43, Tryz.ntmps43
 go_upto_region 1 with fail
 generalize (w.alloc (.cells #[.bool false, .int .i64 0, .int .u64 0, .int .i64 0] 63)) = w1 at *
 go_wp2_with fail
 all_goals first | (exfalso; omega) | skip
 refine (HU _).mono ?_
 rintro o2 w2 ⟨rfl, bb⟩
 have F1 : Hid (Bk w2 (w.heap.size) [.bool false, .int .i64 0, .int .u64 0, .int .i64 0] ∧ Below w.heap.size w w2) := ⟨(F0.out.1).step bb, (F0.out.2).trans (bb.mono (F0.out.2).size)⟩
 clear F0
 clear bb
 have lt0_1 := (F1.out.1).lt
 have le1 := (F1.out.2).size
 have F2 : Hid (Bk (w2.alloc (.cells #[.bool c, .int .i64 k, .int .u64 0, .int .i64 0] 63)) (w.heap.size) [.bool false, .int .i64 0, .int .u64 0, .int .i64 0] ∧ Bk (w2.alloc (.cells #[.bool c, .int .i64 k, .int .u64 0, .int .i64 0] 63)) (w2.heap.size) [.bool c, .int .i64 k, .int .u64 0, .int .i64 0] ∧ Below w.heap.size w (w2.alloc (.cells #[.bool c, .int .i64 k, .int .u64 0, .int .i64 0] 63))) := ⟨(F1.out.1).step ((Below.refl _ _).alloc (Nat.le_refl _) _), Bk.new4 w2 (.bool c) (.int .i64 k) (.int .u64 0) (.int .i64 0) 63, (F1.out.2).alloc ((F1.out.2).size) _⟩
 clear F1
 go_upto_region 2 with fail
 generalize (w2.alloc (.cells #[.bool c, .int .i64 k, .int .u64 0, .int .i64 0] 63)) = w3 at *
 have l1_0 := F2.out.1.lt
 have a1_0_0 := F2.out.1.cell 0 _ rfl
 have f1_0_0 := F2.out.1.fz 0
 have a1_0_1 := F2.out.1.cell 1 _ rfl
 have f1_0_1 := F2.out.1.fz 1
 have a1_0_2 := F2.out.1.cell 2 _ rfl
 have f1_0_2 := F2.out.1.fz 2
 have a1_0_3 := F2.out.1.cell 3 _ rfl
 have f1_0_3 := F2.out.1.fz 3
 have l1_1 := F2.out.2.1.lt
 have a1_1_0 := F2.out.2.1.cell 0 _ rfl
 have f1_1_0 := F2.out.2.1.fz 0
 have a1_1_1 := F2.out.2.1.cell 1 _ rfl
 have f1_1_1 := F2.out.2.1.fz 1
 have a1_1_2 := F2.out.2.1.cell 2 _ rfl
 have f1_1_2 := F2.out.2.1.fz 2
 have a1_1_3 := F2.out.2.1.cell 3 _ rfl
 have f1_1_3 := F2.out.2.1.fz 3
 have ne1_0_1 : ¬ w.heap.size = w2.heap.size := by omega
 have ne1_1_0 : ¬ w2.heap.size = w.heap.size := by omega
 go_wp2
 refine bodyPost_ret (v := .tuple #[.agg #[.bool false, .int .i64 0, .int .u64 0, .int .i64 0], .iface 57 (.int .i64 1)]) (by simp [results, Tryz.results43, go_sem, World.cell?_setCell_same, World.cell?_setCell_other, *]) rfl ⟨rfl, ?_⟩
 repeat (first | refine Below.setCell ?_ (by first | exact Nat.le_refl _ | (dsimp only; omega)) _ | refine Below.alloc ?_ (by first | exact Nat.le_refl _ | omega | (simp; omega)) _ | refine Below.drew ?_)
 exact F2.out.2.2
theorem fin_zero {b z : Int} {c d : Bool} {k M E : Int} (HU : ∀ W, Calls Tryz.prog 62 #[.int .u64 b, .int .i64 z] W fun e w' => e = .returned (.tuple #[.agg #[.bool c, .int .i64 1, .int .u64 0, .int .i64 0], .nilIface]) ∧ Below W.heap.size W w') (HL : ∀ W, Calls Tryz.prog 63 #[.int .i64 z] W fun e w' => e = .returned (.tuple #[.int .u64 1, .nilIface]) ∧ Below W.heap.size W w') (H1 : ∀ W, Calls Tryz.prog 62 #[.int .u64 1, .int .i64 z] W fun e w' => e = .returned (.tuple #[.agg #[.bool d, .int .i64 k, .int .u64 M, .int .i64 E], .nilIface]) ∧ Below W.heap.size W w') (w : World) :
 Calls Tryz.prog 43 #[.int .u64 b, .int .i64 z] w fun x w' => x = .returned (.tuple #[.agg #[.bool c, .int .i64 1, .int .u64 0, .int .i64 E], .nilIface]) ∧ Below w.heap.size w w' := by
 have F0 : Hid (Bk (w.alloc (.cells #[.bool false, .int .i64 0, .int .u64 0, .int .i64 0] 63)) (w.heap.size) [.bool false, .int .i64 0, .int .u64 0, .int .i64 0] ∧ Below w.heap.size w (w.alloc (.cells #[.bool false, .int .i64 0, .int .u64 0, .int .i64 0] 63))) := ⟨Bk.new4 w (.bool false) (.int .i64 0) (.int .u64 0) (.int .i64 0) 63, ((Below.refl w.heap.size w)).alloc (Nat.le_refl _) _⟩
 go_enter Tryz.func43, Tryz.ntmps43
 go_upto_region 1 with fail
 generalize (w.alloc (.cells #[.bool false, .int .i64 0, .int .u64 0, .int .i64 0] 63)) = w1 at *
 go_wp2_with fail
 all_goals first | (exfalso; omega) | skip
 refine (HU _).mono ?_
 rintro o2 w2 ⟨rfl, bb⟩
 have F1 : Hid (Bk w2 (w.heap.size) [.bool false, .int .i64 0, .int .u64 0, .int .i64 0] ∧ Below w.heap.size w w2) := ⟨(F0.out.1).step bb, (F0.out.2).trans (bb.mono (F0.out.2).size)⟩
 clear F0
 clear bb
 have lt0_1 := (F1.out.1).lt
 have le1 := (F1.out.2).size
 have F2 : Hid (Bk (w2.alloc (.cells #[.bool c, .int .i64 1, .int .u64 0, .int .i64 0] 63)) (w.heap.size) [.bool false, .int .i64 0, .int .u64 0, .int .i64 0] ∧ Bk (w2.alloc (.cells #[.bool c, .int .i64 1, .int .u64 0, .int .i64 0] 63)) (w2.heap.size) [.bool c, .int .i64 1, .int .u64 0, .int .i64 0] ∧ Below w.heap.size w (w2.alloc (.cells #[.bool c, .int .i64 1, .int .u64 0, .int .i64 0] 63))) := ⟨(F1.out.1).step ((Below.refl _ _).alloc (Nat.le_refl _) _), Bk.new4 w2 (.bool c) (.int .i64 1) (.int .u64 0) (.int .i64 0) 63, (F1.out.2).alloc ((F1.out.2).size) _⟩
 clear F1
 go_upto_region 2 with fail
 generalize (w2.alloc (.cells #[.bool c, .int .i64 1, .int .u64 0, .int .i64 0] 63)) = w3 at *
 have l1_0 := F2.out.1.lt
 have a1_0_0 := F2.out.1.cell 0 _ rfl
 have f1_0_0 := F2.out.1.fz 0
 have a1_0_1 := F2.out.1.cell 1 _ rfl
 have f1_0_1 := F2.out.1.fz 1
 have a1_0_2 := F2.out.1.cell 2 _ rfl
 have f1_0_2 := F2.out.1.fz 2
 have a1_0_3 := F2.out.1.cell 3 _ rfl
 have f1_0_3 := F2.out.1.fz 3
 have l1_1 := F2.out.2.1.lt
 have a1_1_0 := F2.out.2.1.cell 0 _ rfl
 have f1_1_0 := F2.out.2.1.fz 0
 have a1_1_1 := F2.out.2.1.cell 1 _ rfl
 have f1_1_1 := F2.out.2.1.fz 1
 have a1_1_2 := F2.out.2.1.cell 2 _ rfl
 have f1_1_2 := F2.out.2.1.fz 2
 have a1_1_3 := F2.out.2.1.cell 3 _ rfl
 have f1_1_3 := F2.out.2.1.fz 3
 have ne1_0_1 : ¬ w.heap.size = w2.heap.size := by omega
 have ne1_1_0 : ¬ w2.heap.size = w.heap.size := by omega
 go_wp2_with fail
 all_goals first | (exfalso; omega) | skip
 refine (HL _).mono ?_
 rintro o4 w4 ⟨rfl, bb⟩
 have F3 : Hid (Bk w4 (w.heap.size) [.bool false, .int .i64 0, .int .u64 0, .int .i64 0] ∧ Bk w4 (w2.heap.size) [.bool c, .int .i64 1, .int .u64 0, .int .i64 0] ∧ Below w.heap.size w w4) := ⟨(F2.out.1).step bb, (F2.out.2.1).step bb, (F2.out.2.2).trans (bb.mono (F2.out.2.2).size)⟩
 clear F2
 clear bb
 clear l1_0 a1_0_0 f1_0_0 a1_0_1 f1_0_1 a1_0_2 f1_0_2 a1_0_3 f1_0_3 l1_1 a1_1_0 f1_1_0 a1_1_1 f1_1_1 a1_1_2 f1_1_2 a1_1_3 f1_1_3
 go_wp2_with fail
 all_goals first | (exfalso; omega) | skip
 refine (H1 _).mono ?_
 rintro o5 w5 ⟨rfl, bb⟩
 have F4 : Hid (Bk w5 (w.heap.size) [.bool false, .int .i64 0, .int .u64 0, .int .i64 0] ∧ Bk w5 (w2.heap.size) [.bool c, .int .i64 1, .int .u64 0, .int .i64 0] ∧ Below w.heap.size w w5) := ⟨(F3.out.1).step bb, (F3.out.2.1).step bb, (F3.out.2.2).trans (bb.mono (F3.out.2.2).size)⟩
 clear F3
 clear bb
 have lt0_2 := (F4.out.1).lt
 have lt1_2 := (F4.out.2.1).lt
 have le2 := (F4.out.2.2).size
 have F5 : Hid (Bk (w5.alloc (.cells #[.bool d, .int .i64 k, .int .u64 M, .int .i64 E] 63)) (w.heap.size) [.bool false, .int .i64 0, .int .u64 0, .int .i64 0] ∧ Bk (w5.alloc (.cells #[.bool d, .int .i64 k, .int .u64 M, .int .i64 E] 63)) (w2.heap.size) [.bool c, .int .i64 1, .int .u64 0, .int .i64 0] ∧ Bk (w5.alloc (.cells #[.bool d, .int .i64 k, .int .u64 M, .int .i64 E] 63)) (w5.heap.size) [.bool d, .int .i64 k, .int .u64 M, .int .i64 E] ∧ Below w.heap.size w (w5.alloc (.cells #[.bool d, .int .i64 k, .int .u64 M, .int .i64 E] 63))) := ⟨(F4.out.1).step ((Below.refl _ _).alloc (Nat.le_refl _) _), (F4.out.2.1).step ((Below.refl _ _).alloc (Nat.le_refl _) _), Bk.new4 w5 (.bool d) (.int .i64 k) (.int .u64 M) (.int .i64 E) 63, (F4.out.2.2).alloc ((F4.out.2.2).size) _⟩
 clear F4
 go_upto_region 10 with fail
 generalize (w5.alloc (.cells #[.bool d, .int .i64 k, .int .u64 M, .int .i64 E] 63)) = w6 at *
 have l2_0 := F5.out.1.lt
 have a2_0_0 := F5.out.1.cell 0 _ rfl
 have f2_0_0 := F5.out.1.fz 0
 have a2_0_1 := F5.out.1.cell 1 _ rfl
 have f2_0_1 := F5.out.1.fz 1
 have a2_0_2 := F5.out.1.cell 2 _ rfl
 have f2_0_2 := F5.out.1.fz 2
 have a2_0_3 := F5.out.1.cell 3 _ rfl
 have f2_0_3 := F5.out.1.fz 3
 have l2_1 := F5.out.2.1.lt
 have a2_1_0 := F5.out.2.1.cell 0 _ rfl
 have f2_1_0 := F5.out.2.1.fz 0
 have a2_1_1 := F5.out.2.1.cell 1 _ rfl
 have f2_1_1 := F5.out.2.1.fz 1
 have a2_1_2 := F5.out.2.1.cell 2 _ rfl
 have f2_1_2 := F5.out.2.1.fz 2
 have a2_1_3 := F5.out.2.1.cell 3 _ rfl
 have f2_1_3 := F5.out.2.1.fz 3
 have l2_2 := F5.out.2.2.1.lt
 have a2_2_0 := F5.out.2.2.1.cell 0 _ rfl
 have f2_2_0 := F5.out.2.2.1.fz 0
 have a2_2_1 := F5.out.2.2.1.cell 1 _ rfl
 have f2_2_1 := F5.out.2.2.1.fz 1
 have a2_2_2 := F5.out.2.2.1.cell 2 _ rfl
 have f2_2_2 := F5.out.2.2.1.fz 2
 have a2_2_3 := F5.out.2.2.1.cell 3 _ rfl
 have f2_2_3 := F5.out.2.2.1.fz 3
 have ne2_0_1 : ¬ w.heap.size = w2.heap.size := by omega
 have ne2_0_2 : ¬ w.heap.size = w5.heap.size := by omega
 have ne2_1_0 : ¬ w2.heap.size = w.heap.size := by omega
 have ne2_1_2 : ¬ w2.heap.size = w5.heap.size := by omega
 have ne2_2_0 : ¬ w5.heap.size = w.heap.size := by omega
 have ne2_2_1 : ¬ w5.heap.size = w2.heap.size := by omega
 go_wp2
 refine bodyPost_ret (v := .tuple #[.agg #[.bool c, .int .i64 1, .int .u64 0, .int .i64 E], .nilIface]) (by simp [results, Tryz.results43, go_sem, World.cell?_setCell_same, World.cell?_setCell_other, *]) rfl ⟨rfl, ?_⟩
 repeat (first | refine Below.setCell ?_ (by first | exact Nat.le_refl _ | (dsimp only; omega)) _ | refine Below.alloc ?_ (by first | exact Nat.le_refl _ | omega | (simp; omega)) _ | refine Below.drew ?_)
 exact F5.out.2.2.2
theorem ex_err {b z : Int} {n : Int} (HF : ∀ W, Calls Tryz.prog 43 #[.int .u64 b, .int .i64 z] W fun e w' => e = .returned (.tuple #[.agg #[.bool false, .int .i64 0, .int .u64 0, .int .i64 0], .iface 57 (.int .i64 n)]) ∧ Below W.heap.size W w') (w : World) :
 Calls Tryz.prog 29 #[.int .u64 b, .int .i64 z] w fun x w' => x = .returned (.tuple #[.agg #[.string ⟨#[]⟩, .int .i64 0, .bool false], .iface 57 (.int .i64 n)]) ∧ Below w.heap.size w w' := by
 have F0 : Hid (Bk (w.alloc (.cells #[.string ⟨#[]⟩, .int .i64 0, .bool false] 24)) (w.heap.size) [.string ⟨#[]⟩, .int .i64 0, .bool false] ∧ Below w.heap.size w (w.alloc (.cells #[.string ⟨#[]⟩, .int .i64 0, .bool false] 24))) := ⟨Bk.new3 w (.string ⟨#[]⟩) (.int .i64 0) (.bool false) 24, ((Below.refl w.heap.size w)).alloc (Nat.le_refl _) _⟩
 go_enter Tryz.func29, Tryz.ntmps29
 go_upto_region 1 with fail
 generalize (w.alloc (.cells #[.string ⟨#[]⟩, .int .i64 0, .bool false] 24)) = w1 at *
 go_wp2_with fail
 all_goals first | (exfalso; omega) | skip
 refine (HF _).mono ?_
 rintro o2 w2 ⟨rfl, bb⟩
 have F1 : Hid (Bk w2 (w.heap.size) [.string ⟨#[]⟩, .int .i64 0, .bool false] ∧ Below w.heap.size w w2) := ⟨(F0.out.1).step bb, (F0.out.2).trans (bb.mono (F0.out.2).size)⟩
 clear F0
 clear bb
 have lt0_1 := (F1.out.1).lt
 have le1 := (F1.out.2).size
 have F2 : Hid (Bk (w2.alloc (.cells #[.bool false, .int .i64 0, .int .u64 0, .int .i64 0] 63)) (w.heap.size) [.string ⟨#[]⟩, .int .i64 0, .bool false] ∧ Bk (w2.alloc (.cells #[.bool false, .int .i64 0, .int .u64 0, .int .i64 0] 63)) (w2.heap.size) [.bool false, .int .i64 0, .int .u64 0, .int .i64 0] ∧ Below w.heap.size w (w2.alloc (.cells #[.bool false, .int .i64 0, .int .u64 0, .int .i64 0] 63))) := ⟨(F1.out.1).step ((Below.refl _ _).alloc (Nat.le_refl _) _), Bk.new4 w2 (.bool false) (.int .i64 0) (.int .u64 0) (.int .i64 0) 63, (F1.out.2).alloc ((F1.out.2).size) _⟩
 clear F1
 go_upto_region 2 with fail
 generalize (w2.alloc (.cells #[.bool false, .int .i64 0, .int .u64 0, .int .i64 0] 63)) = w3 at *
 have l1_0 := F2.out.1.lt
 have a1_0_0 := F2.out.1.cell 0 _ rfl
 have f1_0_0 := F2.out.1.fz 0
 have a1_0_1 := F2.out.1.cell 1 _ rfl
 have f1_0_1 := F2.out.1.fz 1
 have a1_0_2 := F2.out.1.cell 2 _ rfl
 have f1_0_2 := F2.out.1.fz 2
 have l1_1 := F2.out.2.1.lt
 have a1_1_0 := F2.out.2.1.cell 0 _ rfl
 have f1_1_0 := F2.out.2.1.fz 0
 have a1_1_1 := F2.out.2.1.cell 1 _ rfl
 have f1_1_1 := F2.out.2.1.fz 1
 have a1_1_2 := F2.out.2.1.cell 2 _ rfl
 have f1_1_2 := F2.out.2.1.fz 2
 have a1_1_3 := F2.out.2.1.cell 3 _ rfl
 have f1_1_3 := F2.out.2.1.fz 3
 have ne1_0_1 : ¬ w.heap.size = w2.heap.size := by omega
 have ne1_1_0 : ¬ w2.heap.size = w.heap.size := by omega
 go_wp2
 refine bodyPost_ret (v := .tuple #[.agg #[.string ⟨#[]⟩, .int .i64 0, .bool false], .iface 57 (.int .i64 n)]) (by simp [results, Tryz.results29, go_sem, World.cell?_setCell_same, World.cell?_setCell_other, *]) rfl ⟨rfl, ?_⟩
 repeat (first | refine Below.setCell ?_ (by first | exact Nat.le_refl _ | (dsimp only; omega)) _ | refine Below.alloc ?_ (by first | exact Nat.le_refl _ | omega | (simp; omega)) _ | refine Below.drew ?_)
 exact F2.out.2.2
theorem ex_ok {b z : Int} {c : Bool} {k M E : Int} {s : ByteArray} {p : Int} (HF : ∀ W, Calls Tryz.prog 43 #[.int .u64 b, .int .i64 z] W fun e w' => e = .returned (.tuple #[.agg #[.bool c, .int .i64 k, .int .u64 M, .int .i64 E], .nilIface]) ∧ Below W.heap.size W w') (HD : ∀ W, Calls Tryz.prog 44 #[.int .u64 M, .int .i64 E] W fun e w' => e = .returned (.agg #[.string s, .int .i64 p, .bool false]) ∧ Below W.heap.size W w') (w : World) :
 Calls Tryz.prog 29 #[.int .u64 b, .int .i64 z] w fun x w' => x = .returned (.tuple #[.agg #[.string s, .int .i64 p, .bool false], .nilIface]) ∧ Below w.heap.size w w' := by
 have F0 : Hid (Bk (w.alloc (.cells #[.string ⟨#[]⟩, .int .i64 0, .bool false] 24)) (w.heap.size) [.string ⟨#[]⟩, .int .i64 0, .bool false] ∧ Below w.heap.size w (w.alloc (.cells #[.string ⟨#[]⟩, .int .i64 0, .bool false] 24))) := ⟨Bk.new3 w (.string ⟨#[]⟩) (.int .i64 0) (.bool false) 24, ((Below.refl w.heap.size w)).alloc (Nat.le_refl _) _⟩
 go_enter Tryz.func29, Tryz.ntmps29
 go_upto_region 1 with fail
 generalize (w.alloc (.cells #[.string ⟨#[]⟩, .int .i64 0, .bool false] 24)) = w1 at *
 go_wp2_with fail
 all_goals first | (exfalso; omega) | skip
 refine (HF _).mono ?_
 rintro o2 w2 ⟨rfl, bb⟩
 have F1 : Hid (Bk w2 (w.heap.size) [.string ⟨#[]⟩, .int .i64 0, .bool false] ∧ Below w.heap.size w w2) := ⟨(F0.out.1).step bb, (F0.out.2).trans (bb.mono (F0.out.2).size)⟩
 clear F0
 clear bb
 have lt0_1 := (F1.out.1).lt
 have le1 := (F1.out.2).size
 have F2 : Hid (Bk (w2.alloc (.cells #[.bool c, .int .i64 k, .int .u64 M, .int .i64 E] 63)) (w.heap.size) [.string ⟨#[]⟩, .int .i64 0, .bool false] ∧ Bk (w2.alloc (.cells #[.bool c, .int .i64 k, .int .u64 M, .int .i64 E] 63)) (w2.heap.size) [.bool c, .int .i64 k, .int .u64 M, .int .i64 E] ∧ Below w.heap.size w (w2.alloc (.cells #[.bool c, .int .i64 k, .int .u64 M, .int .i64 E] 63))) := ⟨(F1.out.1).step ((Below.refl _ _).alloc (Nat.le_refl _) _), Bk.new4 w2 (.bool c) (.int .i64 k) (.int .u64 M) (.int .i64 E) 63, (F1.out.2).alloc ((F1.out.2).size) _⟩
 clear F1
 go_upto_region 2 with fail
 generalize (w2.alloc (.cells #[.bool c, .int .i64 k, .int .u64 M, .int .i64 E] 63)) = w3 at *
 have l1_0 := F2.out.1.lt
 have a1_0_0 := F2.out.1.cell 0 _ rfl
 have f1_0_0 := F2.out.1.fz 0
 have a1_0_1 := F2.out.1.cell 1 _ rfl
 have f1_0_1 := F2.out.1.fz 1
 have a1_0_2 := F2.out.1.cell 2 _ rfl
 have f1_0_2 := F2.out.1.fz 2
 have l1_1 := F2.out.2.1.lt
 have a1_1_0 := F2.out.2.1.cell 0 _ rfl
 have f1_1_0 := F2.out.2.1.fz 0
 have a1_1_1 := F2.out.2.1.cell 1 _ rfl
 have f1_1_1 := F2.out.2.1.fz 1
 have a1_1_2 := F2.out.2.1.cell 2 _ rfl
 have f1_1_2 := F2.out.2.1.fz 2
 have a1_1_3 := F2.out.2.1.cell 3 _ rfl
 have f1_1_3 := F2.out.2.1.fz 3
 have ne1_0_1 : ¬ w.heap.size = w2.heap.size := by omega
 have ne1_1_0 : ¬ w2.heap.size = w.heap.size := by omega
 go_wp2_with fail
 all_goals first | (exfalso; omega) | skip
 refine (HD _).mono ?_
 rintro o4 w4 ⟨rfl, bb⟩
 have F3 : Hid (Bk w4 (w.heap.size) [.string ⟨#[]⟩, .int .i64 0, .bool false] ∧ Bk w4 (w2.heap.size) [.bool c, .int .i64 k, .int .u64 M, .int .i64 E] ∧ Below w.heap.size w w4) := ⟨(F2.out.1).step bb, (F2.out.2.1).step bb, (F2.out.2.2).trans (bb.mono (F2.out.2.2).size)⟩
 clear F2
 clear bb
 clear l1_0 a1_0_0 f1_0_0 a1_0_1 f1_0_1 a1_0_2 f1_0_2 l1_1 a1_1_0 f1_1_0 a1_1_1 f1_1_1 a1_1_2 f1_1_2 a1_1_3 f1_1_3
 have l2_0 := F3.out.1.lt
 have a2_0_0 := F3.out.1.cell 0 _ rfl
 have f2_0_0 := F3.out.1.fz 0
 have a2_0_1 := F3.out.1.cell 1 _ rfl
 have f2_0_1 := F3.out.1.fz 1
 have a2_0_2 := F3.out.1.cell 2 _ rfl
 have f2_0_2 := F3.out.1.fz 2
 have l2_1 := F3.out.2.1.lt
 have a2_1_0 := F3.out.2.1.cell 0 _ rfl
 have f2_1_0 := F3.out.2.1.fz 0
 have a2_1_1 := F3.out.2.1.cell 1 _ rfl
 have f2_1_1 := F3.out.2.1.fz 1
 have a2_1_2 := F3.out.2.1.cell 2 _ rfl
 have f2_1_2 := F3.out.2.1.fz 2
 have a2_1_3 := F3.out.2.1.cell 3 _ rfl
 have f2_1_3 := F3.out.2.1.fz 3
 have ne2_0_1 : ¬ w.heap.size = w2.heap.size := by omega
 have ne2_1_0 : ¬ w2.heap.size = w.heap.size := by omega
 go_wp2
 refine bodyPost_ret (v := .tuple #[.agg #[.string s, .int .i64 p, .bool false], .nilIface]) (by simp [results, Tryz.results29, go_sem, World.cell?_setCell_same, World.cell?_setCell_other, *]) rfl ⟨rfl, ?_⟩
 repeat (first | refine Below.setCell ?_ (by first | exact Nat.le_refl _ | (dsimp only; omega)) _ | refine Below.alloc ?_ (by first | exact Nat.le_refl _ | omega | (simp; omega)) _ | refine Below.drew ?_)
 exact F3.out.2.2
end Go.Proofs.YtohhmobfmmeohaaGreatDoor
