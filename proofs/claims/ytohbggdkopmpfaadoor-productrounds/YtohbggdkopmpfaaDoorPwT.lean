/-
  What the document's Mul of layer 13 answers: the product of two numbers.
-/
import Derived.Test.YtohbggdkopmpfaaDoorPwS
import Derived.Deep.RegionHeld3
namespace Go.Proofs.YtohbggdkopmpfaaDoor
open Go.RowKit

/-- A row of N digits that fills the block g. -/
structure Big.D.Row (w : World) (g N : Nat) (F : Nat → Nat) : Prop where
  row : w.rowIs g 22 N (fun i => .int .u64 (F i : Int))
  ws : Big.Ws F
theorem Big.D.Row.set {w : World} {g N : Nat} {F : Nat → Nat} (R : Big.D.Row w g N F) (i : Nat) {r : Nat} (hr : r < Big.B) : Big.D.Row (w.setCell ⟨g, i, none⟩ (.int .u64 (r : Int))) g N (Big.put F i r) := by
  refine ⟨(R.row.set i (.int .u64 (r : Int))).congr fun j hj => ?_, Big.put_Ws R.ws hr⟩
  unfold Big.put
  by_cases c : j = i
  · rw [if_pos c, if_pos c]
  · rw [if_neg c, if_neg c]
theorem Big.D.Row.drew {w : World} {g N : Nat} {F : Nat → Nat} (R : Big.D.Row w g N F) : Big.D.Row w.drew g N F := ⟨R.row.drew, R.ws⟩
theorem Big.D.Row.below {w w' : World} {g N : Nat} {F : Nat → Nat} (R : Big.D.Row w g N F) (h : Below w.heap.size w w') : Big.D.Row w' g N F :=
  ⟨R.row.of_block (h.block g R.row.lt), R.ws⟩
theorem Big.D.Row.sl0 {w : World} {g N : Nat} {F : Nat → Nat} (R : Big.D.Row w g N F) (hN : N ≤ maxLen) : Big.D.Sl w (some ⟨g, 0, none⟩) N N g 0 F :=
  ⟨Nat.le_refl _, hN, fun _ => rfl, fun _ => R.row.lt, fun i hi => by rw [Nat.zero_add]; exact R.row.cell hi, R.ws⟩
theorem Big.D.made_row (w : World) (n : Nat) : Big.D.Row (w.alloc (.cells (madeCells #[.int .u64 0] n) 22)) w.heap.size n (fun _ => 0) := ⟨World.rowIs_made _ _ _ _, fun _ => Big.B_pos⟩

set_option maxRecDepth 100000 in
set_option maxHeartbeats 4000000 in
theorem dmul_big {w : World} {ao : Option Addr} {n c ba oa : Nat} {f : Nat → Nat} (S : Big.D.Sl w ao n c ba oa f) {bo : Option Addr} {m cb bb ob : Nat} {g : Nat → Nat} (S' : Big.D.Sl w bo m cb bb ob g) (hn : n ≤ 1000) (hm : m ≤ 1000) :
    Calls Tryd.prog 28 #[.slice ao n c, .slice bo m cb] w fun e w' => ∃ v, e = .returned v ∧ Big.D.NatV w' v (Big.V f n * Big.V g m) ∧ Below w.heap.size w w' := by
  have hmk := run_make_row' (P := Tryd.prog) 66 22 (.int .u64 0) 8 Big.D.und_big13 Big.D.info_u64 rfl .i64 .i64 (n + m) (by omega) (by omega)
  simp only [Int.natCast_add] at hmk
  have HS : Hid (Big.D.Sl w ao n c ba oa f) := S
  have HS' : Hid (Big.D.Sl w bo m cb bb ob g) := S'
  clear S S'
  go_enter Tryd.func28, Tryd.ntmps28
  go_wp2
  go_loopw [6] (fun i wr => ∃ (k : Nat) (F' : Nat → Nat), i = .int .i64 (k : Int) ∧ k ≤ n ∧ Big.D.Row wr w.heap.size (n + m) F' ∧ Below w.heap.size w wr ∧ (∀ j, k + m ≤ j → F' j = 0) ∧ Big.V F' (k + m) = Big.V f k * Big.V g m) (fun i _ => n - (intOf i).toNat)
  case atStart => exact ⟨0, fun _ => 0, rfl, Nat.zero_le _, Big.D.made_row _ _, (Below.refl _ _).alloc (Nat.le_refl _) _, fun _ _ => rfl, by rw [Big.V_nought, Big.V_zero, Nat.zero_mul]⟩
  case round =>
    obtain ⟨k, F', rfl, hk, R', hbl, hz, hv⟩ := hrel
    have HZ : Hid (∀ j, k + m ≤ j → F' j = 0) := hz
    have HV : Hid (Big.V F' (k + m) = Big.V f k * Big.V g m) := hv
    have HB : Hid (Below w.heap.size w wr) := hbl
    have HR : Hid (Big.D.Row wr w.heap.size (n + m) F') := R'
    clear hz hv
    by_cases c1 : k < n
    · obtain rfl := HS.out.addr (by omega)
      have hxB := HS.out.ws k
      unfold Big.B at hxB
      clear hbl R'
      go_wp2
      go_loopw [7, 8] (fun cy i w2 => ∃ (j v : Nat) (F2 : Nat → Nat), cy = .int .u64 (v : Int) ∧ i = .int .i64 (j : Int) ∧ j ≤ m ∧ v < 4294967296 ∧ Big.D.Row w2 w.heap.size (n + m) F2 ∧ Below w.heap.size w w2 ∧ (∀ t, t < k ∨ k + j ≤ t → F2 t = F' t) ∧ Big.V (fun t => F2 (k + t)) j + v * Big.B ^ j = Big.V (fun t => F' (k + t)) j + Big.V g j * f k) (fun _ i _ => m - (intOf i).toNat)
      case atStart => exact ⟨0, 0, F', rfl, rfl, Nat.zero_le _, by omega, HR.out, HB.out, fun _ _ => rfl, by simp [Big.V]⟩
      case round =>
        obtain ⟨j, v, F2, rfl, rfl, hj, hv4, R2, hb2, hfr, hVV⟩ := hrel
        have HF : Hid (∀ t, t < k ∨ k + j ≤ t → F2 t = F' t) := hfr
        have HVV : Hid (Big.V (fun t => F2 (k + t)) j + v * Big.B ^ j = Big.V (fun t => F' (k + t)) j + Big.V g j * f k) := hVV
        have HR2 : Hid (Big.D.Row wr w.heap.size (n + m) F2) := R2
        have HB2 : Hid (Below w.heap.size w wr) := hb2
        clear hfr hVV
        by_cases c2 : j < m
        · obtain rfl := HS'.out.addr (by omega)
          have ca := (HS.out.below hb2).cell k c1
          have cb' := (HS'.out.below hb2).cell j c2
          have cz := R2.row.cell (i := k + j) (by omega)
          have fz := R2.row.frozen (k + j)
          have hyB := HS'.out.ws j
          have hzB := R2.ws (k + j)
          unfold Big.B at hyB hzB
          have pm : ((f k : Nat) : Int) * ((g j : Nat) : Int) = ((f k * g j : Nat) : Int) := by rw [Int.natCast_mul]
          have pl : f k * g j ≤ 18446744065119617025 := Nat.mul_le_mul (show f k ≤ 4294967295 by omega) (show g j ≤ 4294967295 by omega)
          have dm := Nat.div_add_mod (v + F2 (k + j) + f k * g j) Big.B
          have st := times_step (β := Big.B) (y := g j) (z := F2 (k + j)) (l := (v + F2 (k + j) + f k * g j) % Big.B) (d := (v + F2 (k + j) + f k * g j) / Big.B) HVV.out (by rw [Nat.mul_comm _ Big.B]; omega)
          have hr : (v + F2 (k + j) + f k * g j) % Big.B < Big.B := Nat.mod_lt _ Big.B_pos
          have hq : (v + F2 (k + j) + f k * g j) / Big.B < 4294967296 := by unfold Big.B; omega
          have e1 : (((f k * g j : Nat) : Int) + ((F2 (k + j) : Nat) : Int) + (v : Int)) % 4294967296 = (((v + F2 (k + j) + f k * g j) % Big.B : Nat) : Int) := by unfold Big.B; omega
          have e2 : (((f k * g j : Nat) : Int) + ((F2 (k + j) : Nat) : Int) + (v : Int)) / 4294967296 = (((v + F2 (k + j) + f k * g j) / Big.B : Nat) : Int) := by unfold Big.B; omega
          have HFK : Hid (F2 (k + j) = F' (k + j)) := HF.out _ (Or.inr (by omega))
          have HST := (show Hid _ from st)
          clear st dm R2 hb2
          generalize (v + F2 (k + j) + f k * g j) % Big.B = r at *
          generalize (v + F2 (k + j) + f k * g j) / Big.B = q at *
          generalize f k * g j = P at *
          have i1 : (0 : Int) ≤ (k : Int) + (j : Int) := by omega
          have i2 : (k : Int) + (j : Int) < (n : Int) + (m : Int) := by omega
          have i3 : (k : Int) < (n : Int) := by omega
          have i4 : (j : Int) < (m : Int) := by omega
          have i5 : IntKind.i64.wrap ((k : Int) + (j : Int)) = (k : Int) + (j : Int) := by rw [IntWalk.i64_left, IntWalk.wrap64_in _ ⟨by omega, by omega⟩]
          have i6 : ((k : Int) + (j : Int)).toNat = k + j := by omega
          have u5 : IntKind.u64.wrap (P : Int) = (P : Int) := by rw [IntKind.wrap_u64]; omega
          have u2 : IntKind.u64.wrap ((P : Int) + ((F2 (k + j) : Nat) : Int)) = (P : Int) + ((F2 (k + j) : Nat) : Int) := by rw [IntKind.wrap_u64]; omega
          have u6 : IntKind.u64.wrap ((P : Int) + ((F2 (k + j) : Nat) : Int) + (v : Int)) = (P : Int) + ((F2 (k + j) : Nat) : Int) + (v : Int) := by rw [IntKind.wrap_u64]; omega
          go_wp2
          go_region_held3 (fun w' => w'.cell? ⟨w.heap.size, k + j, none⟩ = some (.int .u64 ((F2 (k + j) : Nat) : Int)) ∧ w'.cell? ⟨ba, oa + k, none⟩ = some (.int .u64 ((f k : Nat) : Int)) ∧ w'.cell? ⟨bb, ob + j, none⟩ = some (.int .u64 ((g j : Nat) : Int))) (go_keep) (fail)
          go_wp2
          go_roundw
          case rel =>
            refine ⟨j + 1, q, Big.put F2 (k + j) r, by rw [e2], by go_num, by omega, hq, HR2.out.drew.set (k + j) hr, HB2.out.drew.setCell (Nat.le_refl _) _, ?_, ?_⟩
            · intro t ht
              rw [Big.put_ne (by omega)]
              exact HF.out t (by omega)
            · have e : Big.V (fun t => Big.put F2 (k + j) r (k + t)) (j + 1) = Big.V (fun t => F2 (k + t)) j + r * Big.B ^ j := by
                rw [Big.V_succ, Big.V_congr (f := fun t => Big.put F2 (k + j) r (k + t)) (g := fun t => F2 (k + t)) (fun i hi => Big.put_ne (by omega)), Big.put_at]
              rw [e, Big.V_succ (fun t => F' (k + t)), Big.V_succ g, Nat.pow_succ]
              have s := HST.out
              rw [HFK.out] at s
              exact s
          case measure => simp [intOf]; omega
        · obtain rfl : j = m := by omega
          have cz := R2.row.cell (i := k + j) (by omega)
          have fz := R2.row.frozen (k + j)
          have hvB : v < Big.B := hv4
          clear R2 hb2
          go_wp2
          go_roundw
          case rel =>
            refine ⟨k + 1, Big.put F2 (k + j) v, by go_num, by omega, HR2.out.set (k + j) hvB, HB2.out.setCell (Nat.le_refl _) _, ?_, ?_⟩
            · intro t ht
              rw [Big.put_ne (by omega), HF.out t (by omega)]
              exact HZ.out t (by omega)
            · have e1 : Big.V (Big.put F2 (k + j) v) (k + 1 + j) = Big.V F2 (k + j) + v * Big.B ^ (k + j) := by
                rw [show k + 1 + j = k + j + 1 by omega, Big.V_succ, Big.V_put_low (Nat.le_refl _), Big.put_at]
              have e2 := Big.V_split F2 k j
              have e3 := Big.V_split F' k j
              have e4 : Big.V F2 k = Big.V F' k := Big.V_congr fun i hi => HF.out i (by omega)
              rw [e4] at e2
              rw [e1, e2, Big.V_succ f k, Nat.pow_add]
              have e5 := mult_gen (p := Big.B ^ k) HVV.out (u := Big.V F' k) (a := Big.V f k) (by rw [← e3]; exact HV.out)
              rw [← e5]
              exact split_gen2
          case measure => simp [intOf]; omega
    · obtain rfl : k = n := by omega
      have T := Big.D.trim_any (R'.sl0 (by unfold maxLen; omega))
      have NV := (R'.sl0 (by unfold maxLen; omega)).trimmed
      rw [HV.out] at NV
      clear R'
      go_wp2_with fail
      refine T.mono ?_
      rintro e wa ⟨rfl, rfl⟩
      go_wp2
      go_ret
      exact ⟨_, rfl, NV, hbl⟩
theorem dmul_nat {w : World} {va vb : Value} {X Y : Nat} (ha : Big.D.NatV w va X) (hb : Big.D.NatV w vb Y) (hX : Fits 1000 X) (hY : Fits 1000 Y) :
    Calls Tryd.prog 28 #[va, vb] w fun e w' => ∃ v, e = .returned v ∧ Big.D.NatV w' v (X * Y) ∧ Below w.heap.size w w' := by
  obtain ⟨ao, n, c, b, o, f, rfl, S, t, rfl⟩ := ha
  obtain ⟨bo, m, cb, bb, ob, g, rfl, S', t', rfl⟩ := hb
  exact dmul_big S S' (big_len t hX) (big_len t' hY)

end Go.Proofs.YtohbggdkopmpfaaDoor
