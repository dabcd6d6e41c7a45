/-
  Itoa for every count; the document's digits and Text; a meter's Add.
-/
import Derived.Test.YtladeppjccfbhaaDoorMetE
import Derived.Lib.AppendIntMem
namespace Go.Proofs.YtladeppjccfbhaaDoor
open Go.RowKit

/-- The table of the powers of ten lies, whatever is done from the block B on. -/
def PowB (B : Nat) (w : World) : Prop := ∀ w', Below B w w' → Pow w'

theorem below_grow (w : World) (k : Nat) (os : Array Obj) : Below w.heap.size w (Sort.grow (w.drewN k) os) :=
  ⟨rfl, rfl, rfl, by simp [Sort.grow, World.drewN], fun i hi => by
    show (w.heap ++ os)[i]? = w.heap[i]?
    exact Array.getElem?_append_left hi⟩

theorem itoa_full {n : Int} (h0 : 0 ≤ n) (h1 : n ≤ 9223372036854775807) (W : World) (h : Pow W) : Calls Tryd.prog 62 #[.int .i64 n] W fun x w' => x = .returned (.string (itB n)) ∧ Below W.heap.size W w' := by
  refine (itoa_any n (by omega) h1 W h).mono ?_
  rintro e w1 ⟨rfl, k, os, rfl⟩
  exact ⟨rfl, below_grow W k os⟩

theorem text_full {m : Value} {l p e t s : Int} (h : TI l p e t s) (w : World) (hP : PowB w.heap.size w)
    (T : Calls Tryd.prog 30 #[m] w fun x w' => x = .returned (tV l p e t s) ∧ Below w.heap.size w w') :
    Calls Tryd.prog 35 #[m] w fun x w' => x = .returned (.string (txt itB l p e t s)) ∧ Below w.heap.size w w' :=
  have l0 := h.l0
  have l1 : l ≤ 9223372036854775807 := Int.le_trans h.lp h.p1
  have p0 : 0 ≤ p := Int.le_trans h.l0 h.lp
  text_of itB (itB_size l0 l1) (itB_size p0 h.p1) (itB_size h.e0 h.e1) (itB_size h.t0 h.t1) (itB_size h.s0 h.s1) w T
    (fun W b => itoa_full l0 l1 W (hP W b)) (fun W b => itoa_full p0 h.p1 W (hP W b)) (fun W b => itoa_full h.e0 h.e1 W (hP W b)) (fun W b => itoa_full h.t0 h.t1 W (hP W b)) (fun W b => itoa_full h.s0 h.s1 W (hP W b))

theorem dig_piece : ∀ i : Fin 10, (⟨#[48, 49, 50, 51, 52, 53, 54, 55, 56, 57]⟩ : ByteArray).extract i.val (i.val + 1) = ⟨#[UInt8.ofNat (48 + i.val)]⟩ := by decide +kernel
theorem itB_more {n : Nat} (h : ¬ n < 10) : itB (n : Int) = itB ((n / 10 : Nat) : Int) ++ ⟨#[UInt8.ofNat (48 + n % 10)]⟩ := by
  unfold itB
  rw [Lib.itoa_nonneg, Lib.itoa_nonneg, Lib.decDigits, dif_neg h, ByteArray.mk_append_mk]

set_option maxRecDepth 100000 in
theorem digits_any (n : Nat) : n ≤ 9223372036854775807 → ∀ w, Calls Tryd.prog 72 #[.int .i64 (n : Int)] w fun x w' => x = .returned (.string (itB (n : Int))) ∧ Below w.heap.size w w' := by
  induction n using Nat.strongRecOn with
  | _ n ih =>
    intro h1 w
    by_cases h : n < 10
    · have e := itB_one h
      have d := dig_piece ⟨n, h⟩
      rw [e, ← d]
      have wk : IntKind.i64.wrap ((n : Int) + 1) = (n : Int) + 1 := by
        unfold IntKind.wrap
        simp [IntKind.bits, IntKind.signed]
        omega
      have i0 : (n : Int) < 10 := by omega
      have i1 : (0 : Int) ≤ (n : Int) := by omega
      have i2 : (n : Int) ≤ (n : Int) + 1 := by omega
      have i3 : (n : Int) + 1 ≤ 10 := by omega
      clear e d ih h1
      go_enter Tryd.func72, Tryd.ntmps72
      go_wp2
      go_ret
      exact ⟨rfl, Below.refl _ _⟩
    · obtain ⟨q, hq⟩ : ∃ q, q = n / 10 := ⟨_, rfl⟩
      obtain ⟨r, hr⟩ : ∃ r, r = n % 10 := ⟨_, rfl⟩
      have I := ih q (by omega) (by omega)
      have e := itB_more h
      rw [← hq, ← hr] at e
      have d := dig_piece ⟨r, by omega⟩
      have z := itB_size (n := (q : Int)) (by omega) (by omega)
      obtain ⟨c, hc⟩ : ∃ c, c = itB (q : Int) ++ (⟨#[UInt8.ofNat (48 + r)]⟩ : ByteArray) := ⟨_, rfl⟩
      rw [← hc] at e
      rw [e]
      have qq : ∀ W, (Op.stringOp .add (itB (q : Int)) ((⟨#[48, 49, 50, 51, 52, 53, 54, 55, 56, 57]⟩ : ByteArray).extract r (r + 1))).run Tryd.prog W = .ok (.string c) W := fun W => by
        rw [hc, d]; exact run_string_add_sum W _ _ (by rw [show (⟨#[UInt8.ofNat (48 + r)]⟩ : ByteArray).size = 1 from rfl]; omega)
      have g1 : (n : Int) / 10 = (q : Int) := by omega
      have g2 : (n : Int) % 10 = (r : Int) := by omega
      have g3 : (n : Int).tmod 10 = (r : Int) := by rw [Int.tmod_eq_emod_of_nonneg (by omega)]; exact g2
      have wq : IntKind.i64.wrap (q : Int) = (q : Int) := by
        unfold IntKind.wrap
        simp [IntKind.bits, IntKind.signed]
        omega
      have wk : IntKind.i64.wrap ((r : Int) + 1) = (r : Int) + 1 := by
        unfold IntKind.wrap
        simp [IntKind.bits, IntKind.signed]
        omega
      have i0 : ¬ (n : Int) < 10 := by omega
      have i1 : (0 : Int) ≤ (r : Int) := by omega
      have i2 : (r : Int) ≤ (r : Int) + 1 := by omega
      have i3 : (r : Int) + 1 ≤ 10 := by omega
      generalize itB (q : Int) = cq at *
      clear e d ih h1 z hc hq hr h
      go_enter Tryd.func72, Tryd.ntmps72
      go_wp2
      go_region_held3 (fun _ => True) (trivial)
        (first | (go_at_call 72; refine (I _).mono ?_; rintro x w1 ⟨rfl, b1⟩; have B1 : Hid (Below w.heap.size w w1) := (Below.refl _ _).drew.trans b1; clear b1))
      all_goals
        go_wp2
        go_ret
        exact ⟨rfl, B1.out⟩

end Go.Proofs.YtladeppjccfbhaaDoor
