/-
  Holds: VEwM IvK.
-/
import Derived.Laws.BitsAllLaws
import Derived.Test.YtjagnfddmlkalaaGreatDoorChecked
import Derived.Lib.ItoaNum
import Derived.Laws.Externs
import Derived.WalkKit
import Derived.WalkSpells
import Derived.WalkLawsBesides
import Derived.Lib.Mul64
import Derived.Lib.TrailingZeros
import Derived.Deep.OwnRows
import Derived.Laws.CopyOwn
import Derived.BigQuiet
import Derived.Deep.RegionHeld3
import Derived.Deep.LoopGhost
import Derived.Deep.AppendLies
import Derived.Deep.DeepCutAuto
import Derived.Stop.Asserts
import Derived.RowKitTokens
import Derived.Lib.Strings
import Derived.Lib.BufferWrite
import Derived.Lib.ConvBytes
import Derived.Test.YtjagnfddmlkalaaGreatDoorRows
import Derived.Test.YtjagnfddmlkalaaGreatDoorKj9
import Derived.Test.YtjagnfddmlkalaaGreatDoorKj12
import Derived.Test.YtjagnfddmlkalaaGreatDoorKj20
set_option maxRecDepth 100000
set_option maxHeartbeats 4000000
namespace Go.Proofs.YtjagnfddmlkalaaGreatDoor
theorem dgt_row {X K i : Nat} (h : i < K) : dgt (rowText 10 X K) i = 48 + X / 10 ^ (K - 1 - i) % 10 := by
 have hs : i < (rowText 10 X K).size := by rw [rowText_size]; exact h
 rw [dgt_lt hs]
 have l : X / 10 ^ (K - 1 - i) % 10 < 10 := Nat.mod_lt _ (by decide)
 have e : (rowText 10 X K)[i]'hs = UInt8.ofNat (ch (X / 10 ^ (K - 1 - i) % 10)) := by
  unfold rowText strOfNums
  show (List.toArray _)[i]'_ = _
  simp
 rw [e, UInt8.toNat_ofNat']
 unfold ch
 rw [if_pos l]
 exact Nat.mod_eq_of_lt (by omega)
theorem dg_row (X K : Nat) : DG (rowText 10 X K) := by
 intro k h
 have h' : k < K := by rw [rowText_size] at h; exact h
 have e := dgt_row (X := X) h'
 rw [dgt_lt h] at e
 have l : X / 10 ^ (K - 1 - k) % 10 < 10 := Nat.mod_lt _ (by decide)
 omega
end Go.Proofs.YtjagnfddmlkalaaGreatDoor
namespace Go.Proofs.YtjagnfddmlkalaaGreatDoor
open Go.RowKit
def pwT (j : Nat) : Nat := 10 ^ j
theorem tx_row {X K : Nat} (_ : 1 ≤ K) (h0 : 10 ^ (K - 1) ≤ X) (hX : X < 10 ^ K) : Tx X (rowText 10 X K) := by
  have rs := rowText_size 10 X K
  have key : ∀ k, k ≤ K → pv (rowText 10 X K) k = X / 10 ^ (K - k) := by
    intro k
    induction k with
    | zero => intro _; rw [Nat.sub_zero, Nat.div_eq_of_lt hX]; rfl
    | succ k ih =>
      intro h
      show 10 * pv (rowText 10 X K) k + (dgt (rowText 10 X K) k - 48) = _
      rw [ih (by omega), dgt_row (by omega), Nat.add_sub_cancel_left, show K - k = K - (k + 1) + 1 from by omega, Nat.pow_succ, ← Nat.div_div_eq_div_mul, show K - 1 - k = K - (k + 1) from by omega]
      omega
  refine ⟨by rw [rs]; exact hX, fun _ => by rw [rs]; exact h0, dg_row X K, ?_⟩
  have q := key K (Nat.le_refl _)
  rw [Nat.sub_self, Nat.pow_zero, Nat.div_one] at q
  rw [rs]
  exact q
theorem Tx.len {X K : Nat} {t : ByteArray} (T : Tx X t) (X0 : 0 < X) (hK' : X < pwT K) : 0 < t.size ∧ t.size ≤ K := by
 have hK : X < 10 ^ K := hK'
 have a := T.lt
 have p : 0 < t.size := by
  apply Nat.pos_of_ne_zero
  intro z
  rw [z, Nat.pow_zero] at a
  omega
 refine ⟨p, ?_⟩
 apply Nat.le_of_not_lt
 intro c
 have := Nat.pow_le_pow_right (n := 10) (by decide) (show K ≤ t.size - 1 by omega)
 have := T.lo p
 omega
theorem Tx.first {X : Nat} {t : ByteArray} (T : Tx X t) (h : 0 < t.size) : dgt t 0 ≠ 48 := by
  intro c
  obtain ⟨n, hn⟩ : ∃ n, t.size = 1 + n := ⟨t.size - 1, by omega⟩
  have e : ∀ k, pv t (1 + k) < 10 ^ k := by
    intro k
    induction k with
    | zero =>
      show 10 * 0 + (dgt t 0 - 48) < 10 ^ 0
      rw [c]; decide
    | succ k ih =>
      have := dgt_in T.dg (1 + k)
      show 10 * pv t (1 + k) + (dgt t (1 + k) - 48) < 10 ^ (k + 1)
      rw [Nat.pow_succ]
      omega
  have a := e n
  rw [← hn, T.vl] at a
  have b := T.lo h
  rw [hn, Nat.add_sub_cancel_left] at b
  omega
def Mz (t s2 : ByteArray) : Prop := ∃ m, m ≤ t.size ∧ 0 < m ∧ (∀ i, m ≤ i → i < t.size → dgt t i = 48) ∧ dgt t (m - 1) ≠ 48 ∧ s2 = t.extract 0 m
theorem mz_ex {X : Nat} {t : ByteArray} (T : Tx X t) (h0 : 0 < t.size) (hl : t.size ≤ 800) {p : Int} (lo : (t.size : Int) ≤ p + (R0 : Int)) (hp : p ≤ 2000) :
 ∃ s2, Dx s2 p (X * 10 ^ (p + (R0 : Int) - (t.size : Int)).toNat) ∧ Mz t s2 := by
 have f0 := T.first h0
 obtain ⟨m, hm, h1, h2⟩ := zeros_at t t.size
 have m0 : 0 < m := by
  rcases Nat.eq_zero_or_pos m with c | c
  · exact absurd (h1 0 (by omega) h0) f0
  · exact c
 have z := pre_size (s := t) (k := m) hm
 have lo' : -1100 ≤ p := by unfold R0 at lo; omega
 refine ⟨t.extract 0 m, ⟨Or.inr (nf_vn ⟨by omega, pre_dg T.dg hm, by rw [pre_dgt hm m0]; exact f0, by rw [z, pre_dgt hm (by omega)]; exact h2 m0⟩ (by omega) (by omega) (by omega)), by omega, ?_⟩, m, hm, m0, h1, h2 m0, rfl⟩
 rw [z, pv_ext (s := t.extract 0 m) (t := t) m (fun j hj => pre_dgt hm hj)]
 have q := pv_noughts (s := t) (m := m) (t.size - m) (fun i a b => h1 i a (by omega))
 rw [show m + (t.size - m) = t.size by omega, T.vl] at q
 rw [q, Nat.mul_assoc, ← Nat.pow_add]
 congr 2
 omega
theorem mz_prog {X : Nat} {t s2 : ByteArray} (T : Tx X t) (h0 : 0 < t.size) (hl : t.size ≤ 800) {p : Int} (lo : -2000 ≤ p) (hp : p ≤ 2000) (M : Mz t s2) (W : World) :
 Calls Tryz.prog 56 #[.string t, .int .i64 p, .bool false] W fun e w' => e = .returned (.tuple #[dcV s2 p false, .nilIface]) ∧ Below W.heap.size W w' := by
 obtain ⟨m, hm, m0, h1, h2, rfl⟩ := M
 have ea : t.extract 0 t.size = t := ext_zero t
 have q := dmake_in (t := t) (p := p) (by omega) T.dg (z := 0) h0 (fun i a => absurd a (by omega)) (T.first h0) ea (fun W => shorten_ok t (by omega) m hm (fun i a b => by rw [← dgt_lt b]; exact h1 i a b) (fun c => by rw [← dgt_lt (by omega)]; exact h2) W) (by omega) (by omega) ⟨by omega, by omega⟩ W
 rw [show p - ((0 : Nat) : Int) = p by omega] at q
 exact q
theorem mz_doc {X : Nat} {t s2 : ByteArray} (T : Tx X t) (h0 : 0 < t.size) (hl : t.size ≤ 800) {p : Int} (lo : -2000 ≤ p) (hp : p ≤ 2000) (M : Mz t s2) (W : World) :
 Calls Tryz.prog 79 #[.string t, .int .i64 p, .bool false] W fun e w' => e = .returned (.tuple #[dcV s2 p false, .int .i64 0]) ∧ Below W.heap.size W w' := by
 obtain ⟨m, hm, m0, h1, h2, rfl⟩ := M
 have ea : t.extract 0 t.size = t := ext_zero t
 have q := rmake_in (t := t) (p := p) (by omega) T.dg (z := 0) h0 (fun i a => absurd a (by omega)) (T.first h0) ea hl hm m0 h1 h2 (by omega) (by omega) ⟨by omega, by omega⟩ W
 rw [show p - ((0 : Nat) : Int) = p by omega] at q
 exact q
def wh (m : Nat) (k j : Nat) : Nat := m * 5 ^ k * 2 ^ j
theorem wh_pos {m : Nat} (h : 0 < m) (k j : Nat) : 0 < wh m k j := Nat.mul_pos (Nat.mul_pos h (Nat.pow_pos (by decide))) (Nat.pow_pos (by decide))
def pw5 (j : Nat) : Nat := 5 ^ j
def pw2 (j : Nat) : Nat := 2 ^ j
theorem five_most : pw2 54 * pw5 1075 < pwT 800 := by decide +kernel
theorem two_most : pw2 54 * pw2 971 < pwT 800 := by decide +kernel
theorem five_word : pw2 54 * pw5 1075 < pw2 8192 := by decide +kernel
theorem pw5_mono {a b : Nat} (h : a ≤ b) : pw5 a ≤ pw5 b := Nat.pow_le_pow_right (by decide) h
theorem pw2_mono {a b : Nat} (h : a ≤ b) : pw2 a ≤ pw2 b := Nat.pow_le_pow_right (by decide) h
structure Kj (m k j : Nat) : Prop where
 hm : m ≤ 18014398509481984
 hk : k ≤ 1075
 hj : j ≤ 971
 o : k = 0 ∨ j = 0
theorem Kj.wh {m k j : Nat} (h : Kj m k j) : wh m k j < pwT 800 := by
 have hm : m ≤ pw2 54 := h.hm
 unfold Go.Proofs.YtjagnfddmlkalaaGreatDoor.wh
 rcases h.o with z | z
 · subst z
   rw [Nat.pow_zero, Nat.mul_one]
   exact Nat.lt_of_le_of_lt (Nat.mul_le_mul hm (pw2_mono h.hj)) two_most
 · subst z
   rw [Nat.pow_zero, Nat.mul_one]
   exact Nat.lt_of_le_of_lt (Nat.mul_le_mul hm (pw5_mono h.hk)) five_most
theorem Kj.five {m k j : Nat} (h : Kj m k j) : m * 5 ^ k < pw2 8192 := Nat.lt_of_le_of_lt (Nat.mul_le_mul (show m ≤ pw2 54 from h.hm) (pw5_mono h.hk)) five_word
theorem ten_word : pwT 800 < pw2 8192 := by decide +kernel
theorem Kj.fv {m k j : Nat} (h : Kj m k j) {e : Int} (he : e = (j : Int) - (k : Int)) : fv m e = Go.Proofs.YtjagnfddmlkalaaGreatDoor.wh m k j * 10 ^ (R0 - k) := by
 unfold Go.Proofs.YtjagnfddmlkalaaGreatDoor.wh
 rcases h.o with z | z
 · subst z
   rw [show e = (j : Int) by omega, fv_nat, Nat.pow_zero, Nat.mul_one, Nat.sub_zero]
 · subst z
   rw [show e = -(k : Int) by omega, fv_neg (by have := h.hk; unfold R0; omega), Nat.pow_zero, Nat.mul_one]
theorem Kj.lens {m k j : Nat} (h : Kj m k j) (m0 : 0 < m) {t : ByteArray} (T : Tx (Go.Proofs.YtjagnfddmlkalaaGreatDoor.wh m k j) t) : 0 < t.size ∧ t.size ≤ 800 := T.len (wh_pos m0 k j) h.wh
theorem Kj.mz {m k j : Nat} (h : Kj m k j) (m0 : 0 < m) {s : ByteArray} {q : Int} (D : Dx s q (Go.Proofs.YtjagnfddmlkalaaGreatDoor.fv m ((j : Int) - (k : Int)))) {t : ByteArray} (T : Tx (Go.Proofs.YtjagnfddmlkalaaGreatDoor.wh m k j) t) : q = (t.size : Int) - (k : Int) ∧ Mz t s := by
 obtain ⟨a, b⟩ := h.lens m0 T
 have hk := h.hk
 obtain ⟨s2, D2, M⟩ := mz_ex T a b (p := (t.size : Int) - (k : Int)) (by unfold R0; omega) (by omega)
 rw [show ((t.size : Int) - (k : Int) + (R0 : Int) - (t.size : Int)).toNat = R0 - k by omega, ← h.fv rfl] at D2
 obtain ⟨rfl, e⟩ := D2.uniq D
 exact ⟨e.symm, M⟩
theorem Kj.make {m k j : Nat} (h : Kj m k j) (m0 : 0 < m) {s : ByteArray} {q : Int} (D : Dx s q (Go.Proofs.YtjagnfddmlkalaaGreatDoor.fv m ((j : Int) - (k : Int)))) {t : ByteArray} (T : Tx (Go.Proofs.YtjagnfddmlkalaaGreatDoor.wh m k j) t) (W : World) :
 Calls Tryz.prog 56 #[.string t, .int .i64 ((t.size : Int) - (k : Int)), .bool false] W fun e w' => e = .returned (.tuple #[dcV s q false, .nilIface]) ∧ Below W.heap.size W w' := by
 obtain ⟨a, b⟩ := h.lens m0 T
 have hk := h.hk
 obtain ⟨e, M⟩ := h.mz m0 D T
 rw [e]
 exact mz_prog T a b (by omega) (by omega) M W
theorem Kj.rmake {m k j : Nat} (h : Kj m k j) (m0 : 0 < m) {s : ByteArray} {q : Int} (D : Dx s q (Go.Proofs.YtjagnfddmlkalaaGreatDoor.fv m ((j : Int) - (k : Int)))) {t : ByteArray} (T : Tx (Go.Proofs.YtjagnfddmlkalaaGreatDoor.wh m k j) t) (W : World) :
 Calls Tryz.prog 79 #[.string t, .int .i64 ((t.size : Int) - (k : Int)), .bool false] W fun e w' => e = .returned (.tuple #[dcV s q false, .int .i64 0]) ∧ Below W.heap.size W w' := by
 obtain ⟨a, b⟩ := h.lens m0 T
 have hk := h.hk
 obtain ⟨e, M⟩ := h.mz m0 D T
 rw [e]
 exact mz_doc T a b (by omega) (by omega) M W
theorem dx_has {m : Nat} {e : Int} (hm : m ≤ 18014398509481984) (h1 : -1075 ≤ e) (h2 : e ≤ 971) : ∃ s q, Dx s q (fv m e) := by
  by_cases m0 : 0 < m
  · obtain ⟨k, j, h, he⟩ : ∃ k j, Kj m k j ∧ e = (j : Int) - (k : Int) := by
      rcases Int.lt_or_le e 0 with c | c
      · exact ⟨(-e).toNat, 0, ⟨hm, by omega, by omega, Or.inr rfl⟩, by omega⟩
      · exact ⟨0, e.toNat, ⟨hm, by omega, by omega, Or.inl rfl⟩, by omega⟩
    have wp := wh_pos m0 k j
    obtain ⟨K, k1, k2, k3⟩ : ∃ K, 1 ≤ K ∧ 10 ^ (K - 1) ≤ wh m k j ∧ wh m k j < 10 ^ K := by
      have key : ∀ n, wh m k j < pwT n → ∃ K, 1 ≤ K ∧ 10 ^ (K - 1) ≤ wh m k j ∧ wh m k j < 10 ^ K := by
        intro n
        induction n with
        | zero => intro g; have g' : wh m k j < 1 := g; omega
        | succ n ih =>
          intro g
          by_cases c : wh m k j < pwT n
          · exact ih c
          · exact ⟨n + 1, by omega, by rw [Nat.add_sub_cancel]; exact Nat.le_of_not_lt c, g⟩
      exact key 800 h.wh
    have T := tx_row k1 k2 k3
    have a := h.lens m0 T
    rw [rowText_size] at a
    have hk := h.hk
    obtain ⟨s2, D2, _⟩ := mz_ex T (by rw [rowText_size]; omega) (by rw [rowText_size]; omega) (p := (K : Int) - (k : Int)) (by rw [rowText_size]; unfold R0; omega) (by omega)
    rw [rowText_size, show ((K : Int) - (k : Int) + (R0 : Int) - (K : Int)).toNat = R0 - k by omega, ← h.fv he] at D2
    exact ⟨_, _, D2⟩
  · obtain rfl : m = 0 := by omega
    rw [fv_zero]
    exact ⟨_, _, dx_nought⟩
end Go.Proofs.YtjagnfddmlkalaaGreatDoor
