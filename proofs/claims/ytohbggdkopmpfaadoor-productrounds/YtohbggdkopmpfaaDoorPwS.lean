/-
  Slices of digits of 32 bits that lie in words of 64 (the document's numbers of layer 13), and what its trim answers.
-/
import Derived.Test.YtohbggdkopmpfaaDoorPn3
namespace Go.Proofs.YtohbggdkopmpfaaDoor
open Go.RowKit

namespace Big.D

/-- A slice of n digits that lie at the block b from the place o on. -/
structure Sl (w : World) (ao : Option Addr) (n c : Nat) (b o : Nat) (f : Nat → Nat) : Prop where
  le : n ≤ c
  cap : c ≤ maxLen
  addr : 0 < n → ao = some ⟨b, o, none⟩
  blk : 0 < n → b < w.heap.size
  cell : ∀ i, i < n → w.cell? ⟨b, o + i, none⟩ = some (.int .u64 (f i : Int))
  ws : Ws f

theorem Sl.below {w w' : World} {ao : Option Addr} {n c b o : Nat} {f : Nat → Nat} (S : Sl w ao n c b o f) (hb : Below w.heap.size w w') : Sl w' ao n c b o f :=
  ⟨S.le, S.cap, S.addr, fun h => Nat.lt_of_lt_of_le (S.blk h) hb.size, fun i hi => (hb.cell (p := ⟨b, o + i, none⟩) (S.blk (by omega))).trans (S.cell i hi), S.ws⟩
theorem Sl.shorter {w : World} {ao : Option Addr} {n c b o m : Nat} {f : Nat → Nat} (S : Sl w ao n c b o f) (h : m ≤ n) : Sl w ao m c b o f :=
  ⟨Nat.le_trans h S.le, S.cap, fun q => S.addr (by omega), fun q => S.blk (by omega), fun i hi => S.cell i (by omega), S.ws⟩

theorem own_sl {w : World} {base : Nat} {e : TypeId} {v : Value} {k : Nat} {F : Nat → Nat} (h : w.ownsRow base e 1 v k (dV .u64 F k)) (hF : Ws F) :
    ∃ ao c b, v = .slice ao k c ∧ Sl w ao k c b 0 F ∧ (0 < k → base ≤ b) := by
  obtain ⟨ao, c, b, rfl, h1, h2, h3, h4⟩ := own_cells h
  exact ⟨ao, c, b, rfl, ⟨h1, h2, fun q => (h3 q).1, fun q => (h3 q).2.1, h4, hF⟩, fun q => (h3 q).2.2⟩

/-- A value that is the document's number X. -/
def NatV (w : World) (v : Value) (X : Nat) : Prop := ∃ ao n c b o f, v = .slice ao n c ∧ Sl w ao n c b o f ∧ Top f n ∧ V f n = X
theorem NatV.below {w w' : World} {v : Value} {X : Nat} (h : NatV w v X) (hb : Below w.heap.size w w') : NatV w' v X := by
  obtain ⟨ao, n, c, b, o, f, e, S, r⟩ := h
  exact ⟨ao, n, c, b, o, f, e, S.below hb, r⟩
theorem natv_nil (w : World) : NatV w (.slice none 0 0) 0 :=
  ⟨none, 0, 0, 0, 0, fun _ => 0, rfl, ⟨Nat.le_refl _, Nat.zero_le _, fun h => absurd h (by omega), fun h => absurd h (by omega), fun i h => absurd h (by omega), fun _ => B_pos⟩, Or.inl rfl, rfl⟩
/-- What trim leaves of a slice. -/
theorem Sl.trimmed {w : World} {ao : Option Addr} {n c b o : Nat} {f : Nat → Nat} (S : Sl w ao n c b o f) : NatV w (.slice ao (tl f n) c) (V f n) :=
  ⟨_, _, _, _, _, f, rfl, S.shorter (tl_le f n), tl_top f n, tl_V f n⟩

/-- The same, in memory that is not below a block. -/
def NewV (w : World) (base : Nat) (v : Value) (X : Nat) : Prop := ∃ ao n c b o f, v = .slice ao n c ∧ Sl w ao n c b o f ∧ Top f n ∧ V f n = X ∧ (0 < n → base ≤ b)
theorem NewV.nat {w : World} {base : Nat} {v : Value} {X : Nat} (h : NewV w base v X) : NatV w v X := by
  obtain ⟨ao, n, c, b, o, f, e, S, t, r, _⟩ := h
  exact ⟨ao, n, c, b, o, f, e, S, t, r⟩
theorem newv_nil (w : World) (base : Nat) : NewV w base (.slice none 0 0) 0 :=
  ⟨none, 0, 0, 0, 0, fun _ => 0, rfl, ⟨Nat.le_refl _, Nat.zero_le _, fun h => absurd h (by omega), fun h => absurd h (by omega), fun i h => absurd h (by omega), fun _ => B_pos⟩, Or.inl rfl, rfl, fun h => absurd h (by omega)⟩
theorem Sl.trimmedN {w : World} {ao : Option Addr} {n c b o base : Nat} {f : Nat → Nat} (S : Sl w ao n c b o f) (h : 0 < n → base ≤ b) : NewV w base (.slice ao (tl f n) c) (V f n) :=
  ⟨_, _, _, _, _, f, rfl, S.shorter (tl_le f n), tl_top f n, tl_V f n, fun q => h (by have := tl_le f n; omega)⟩

theorem und_big13 : Tryd.prog.underlying 66 = some (.slice 22) := by kernel_rfl
theorem info_u64 : (Tryd.prog.info? 22).map (fun i => (i.zero, i.size, i.bytes)) = some (some (.int .u64 0), 1, 8) := by kernel_rfl

set_option maxHeartbeats 1000000 in
theorem trim_any {w : World} {ao : Option Addr} {n c b o : Nat} {f : Nat → Nat} (S : Sl w ao n c b o f) :
    Calls Tryd.prog 52 #[.slice ao n c] w fun e w' => e = .returned (.slice ao (tl f n) c) ∧ w' = w := by
  have hn : n ≤ maxLen := Nat.le_trans S.le S.cap
  have hnc := S.le
  have hcm := S.cap
  unfold maxLen at hn hcm
  have HS : Hid (Sl w ao n c b o f) := S
  clear S
  go_enter Tryd.func52, Tryd.ntmps52
  go_wp2
  go_loop [3] (fun i => ∃ k : Nat, i = .int .i64 k ∧ k ≤ n ∧ tl f n = tl f k) (fun i => (intOf i).toNat)
  case atStart => exact ⟨n, rfl, Nat.le_refl _, rfl⟩
  case round =>
    obtain ⟨k, rfl, hk, htl⟩ := hrel
    have HT : Hid (tl f n = tl f k) := htl
    clear htl
    by_cases c1 : 0 < k
    · obtain rfl := HS.out.addr (by omega)
      have hc := HS.out.cell (k - 1) (by omega)
      by_cases c3 : f (k - 1) = 0
      · rw [c3] at hc
        have HT2 : Hid (tl f n = tl f (k - 1)) := by
          have a := tl_zero (f := f) (n := k - 1) c3
          rw [show k - 1 + 1 = k by omega] at a
          exact HT.out.trans a
        clear c3
        go_wp2
        go_round
        case rel => exact ⟨k - 1, by go_num, by omega, HT2.out⟩
        case measure => simp [intOf]; omega
      · have c3' : (((f (k - 1) : Nat) : Int) == 0) = false := beq_eq_false_iff_ne.mpr (by omega)
        have HT2 : Hid (tl f n = k) := by
          have a := tl_stop (f := f) (n := k - 1) c3
          rw [show k - 1 + 1 = k by omega] at a
          exact HT.out.trans a
        clear c3
        go_wp2
        go_ret
        exact ⟨by rw [HT2.out]; rfl, rfl⟩
    · obtain rfl : k = 0 := by omega
      have HT2 : Hid (tl f n = 0) := HT.out
      clear HT c1
      cases ao with
      | none =>
        go_wp2
        go_ret
        exact ⟨by rw [HT2.out]; rfl, rfl⟩
      | some a =>
        go_wp2
        go_ret
        exact ⟨by rw [HT2.out]; rfl, rfl⟩

end Big.D
end Go.Proofs.YtohbggdkopmpfaaDoor
