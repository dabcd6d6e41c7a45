/-
  Numbers in memory, and what the calls of nat.multiply, Mul, Add, Sub, Cmp answer where nothing is refused.
-/
import Derived.Test.YtkkgancmodhghaaDoorNatT
import Derived.Test.YtkkgancmodhghaaDoorNatC
namespace Go.Proofs.YtkkgancmodhghaaDoor
open Go.RowKit

theorem und_nat : Tryd.prog.underlying 23 = some (.slice 35) := by kernel_rfl
theorem info_u64 : (Tryd.prog.info? 35).map (fun i => (i.zero, i.size, i.bytes)) = some (some (.int .u64 0), 1, 8) := by kernel_rfl

/-- A value that is the number X. -/
def NatV (w : World) (v : Value) (X : Nat) : Prop := ∃ ao n c b o f, v = .slice ao n c ∧ Sl w ao n c b o f ∧ Top f n ∧ V f n = X ∧ n ≤ 128
theorem NatV.below {w w' : World} {v : Value} {X : Nat} (h : NatV w v X) (hb : Below w.heap.size w w') : NatV w' v X := by
  obtain ⟨ao, n, c, b, o, f, e, S, r⟩ := h
  exact ⟨ao, n, c, b, o, f, e, S.below hb, r⟩

theorem below_grown {w w0 w' : World} {g : Nat} (h : Below w.heap.size w w0) (hg : w0.grownBy w' (some g)) (hl : w.heap.size ≤ g) : Below w.heap.size w w' :=
  h.grown hg h.size (fun k e => by have := Option.some.inj e; omega)

theorem split_gen2 {u t v p q : Nat} : u + t * p + v * (p * q) = u + (t + v * q) * p := by grind
theorem mult_gen {a b x p s t v q u : Nat} (h : t + v * q = s + b * x) (e : u + s * p = a * b) : u + (t + v * q) * p = (a + x * p) * b := by
  rw [h]; grind

set_option maxRecDepth 100000 in
set_option maxHeartbeats 2000000 in
theorem multiply_any {w : World} {ao : Option Addr} {n c ba oa : Nat} {f : Nat → Nat} (S : Sl w ao n c ba oa f) {bo : Option Addr} {m cb bb ob : Nat} {G : Nat → Nat} (S' : Sl w bo m cb bb ob G) (hn : n ≤ 1000) (hm : m ≤ 1000) :
    Calls Tryd.prog 55 #[.slice ao n c, .slice bo m cb] w fun e w' => e = .returned (.slice (some ⟨w.heap.size, 0, none⟩) (n + m) (n + m)) ∧ Below w.heap.size w w' ∧
      ∃ F, Row w' w.heap.size (n + m) F ∧ V F (n + m) = V f n * V G m := by
  have hmk := run_make_row' (P := Tryd.prog) 23 35 (.int .u64 0) 8 und_nat info_u64 rfl .i64 .i64 (n + m) (by omega) (by omega)
  simp only [Int.natCast_add] at hmk
  have HS : Hid (Sl w ao n c ba oa f) := S
  have HS' : Hid (Sl w bo m cb bb ob G) := S'
  clear S S'
  go_enter Tryd.func55, Tryd.ntmps55
  go_wp2
  go_loopw [16] (fun i wr => ∃ (k : Nat) (F' : Nat → Nat), i = .int .i64 (k : Int) ∧ k ≤ n ∧ Row wr w.heap.size (n + m) F' ∧ Below w.heap.size w wr ∧ (∀ j, k + m ≤ j → F' j = 0) ∧ V F' (k + m) = V f k * V G m) (fun i _ => n - (intOf i).toNat)
  case atStart => exact ⟨0, fun _ => 0, rfl, Nat.zero_le _, ⟨World.rowIs_made _ _ _ _, fun _ => B_pos⟩, (Below.refl _ _).alloc (Nat.le_refl _) _, fun _ _ => rfl, by rw [V_nought, V_zero, Nat.zero_mul]⟩
  case round =>
    obtain ⟨k, F', rfl, hk, R', hbl, hz, hv⟩ := hrel
    have HZ : Hid (∀ j, k + m ≤ j → F' j = 0) := hz
    have HV : Hid (V F' (k + m) = V f k * V G m) := hv
    have HB : Hid (Below w.heap.size w wr) := hbl
    have HR : Hid (Row wr w.heap.size (n + m) F') := R'
    clear hz hv
    by_cases c1 : k < n
    · obtain rfl := HS.out.addr (by omega)
      have hc := (HS.out.below hbl).cell k c1
      have T := times_any (g := w.heap.size) (o := k) (zo := some ⟨w.heap.size, k, none⟩) (n := m) (c := n + m - k) R' (HS'.out.below hbl) (fun q => ⟨rfl, Nat.ne_of_lt (HS'.out.blk q)⟩) (by omega) (Nat.le_refl _) (f k) (HS.out.ws k)
      clear hbl R'
      go_wp2_with fail
      refine T.mono ?_
      rintro e wa ⟨v, F2, rfl, hvB, hg, R2, hfr, hvv⟩
      have cz := R2.row.cell (i := k + m) (by omega)
      have fz := R2.row.frozen (k + m)
      have HR2 : Hid (Row wa w.heap.size (n + m) F2) := R2
      have HF : Hid (∀ i, i < k ∨ k + m ≤ i → F2 i = F' i) := hfr
      have HVV : Hid (V (fun i => F2 (k + i)) m + v * B ^ m = V (fun i => F' (k + i)) m + V G m * f k) := hvv
      have HG : Hid (Below w.heap.size w wa) := below_grown HB.out hg (Nat.le_refl _)
      have HVB : Hid (v < B) := hvB
      clear R2 hfr hvv hg hvB
      go_wp2
      go_roundw
      case rel =>
        refine ⟨k + 1, put F2 (k + m) v, by go_num, by omega, HR2.out.set (k + m) HVB.out, HG.out.setCell (Nat.le_refl _) _, ?_, ?_⟩
        · intro j hj
          rw [put_ne (by omega), HF.out j (by omega)]
          exact HZ.out j (by omega)
        · have e1 : V (put F2 (k + m) v) (k + 1 + m) = V F2 (k + m) + v * B ^ (k + m) := by
            rw [show k + 1 + m = k + m + 1 by omega, V_succ, V_put_low (Nat.le_refl _), put_at]
          have e2 := V_split F2 k m
          have e3 := V_split F' k m
          have e4 : V F2 k = V F' k := V_congr fun i hi => HF.out i (by omega)
          rw [e4] at e2
          rw [e1, e2, V_succ f k, Nat.pow_add]
          have e5 := mult_gen (p := B ^ k) HVV.out (u := V F' k) (a := V f k) (by rw [← e3]; exact HV.out)
          rw [← e5]
          exact split_gen2
      case measure => simp [intOf]; omega
    · obtain rfl : k = n := by omega
      clear R' hbl
      go_wp2
      go_ret
      exact ⟨rfl, HB.out, F', HR.out, HV.out⟩

end Go.Proofs.YtkkgancmodhghaaDoor
