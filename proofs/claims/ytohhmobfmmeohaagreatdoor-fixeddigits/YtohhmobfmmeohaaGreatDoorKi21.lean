/-
  Holds: VPn3 VPwS VPwT VPwU.
-/
import Derived.Test.YtohhmobfmmeohaaGreatDoorRows
import Derived.Laws.Externs
import Derived.WalkKit
import Derived.WalkSpells
import Derived.WalkLawsBesides
import Derived.Lib.Mul64
import Derived.Lib.TrailingZeros
import Derived.Lib.ItoaNum
import Derived.Deep.OwnRows
import Derived.Laws.CopyOwn
import Derived.BigQuiet
import Derived.Deep.RegionHeld3
import Derived.Deep.LoopGhost
import Derived.Deep.AppendLies
import Derived.Test.YtohhmobfmmeohaaGreatDoorKi14
import Derived.Test.YtohhmobfmmeohaaGreatDoorKi15
set_option maxRecDepth 100000
set_option maxHeartbeats 4000000
namespace Go.Proofs.YtohhmobfmmeohaaGreatDoor
open Go.RowKit
theorem cut_in {g : Nat → Nat} {n i : Nat} (h : i < n) : cut g n i = g i := by unfold cut; rw [if_pos h]
theorem cut_out {g : Nat → Nat} {n i : Nat} (h : ¬ i < n) : cut g n i = 0 := by unfold cut; rw [if_neg h]
theorem cut_V {g : Nat → Nat} {n k : Nat} (h : n ≤ k) : Big.V (cut g n) k = Big.V g n := by
 rw [Big.V_zeros (f := cut g n) h (fun i a _ => cut_out (by omega))]
 exact Big.V_congr fun i hi => cut_in hi
theorem dV_put (K : IntKind) (F : Nat → Nat) (k r : Nat) : dV K (Big.put F k r) (k + 1) = dV K F k ++ [.int K (r : Int)] := by
 rw [dV_succ, Big.put_at, dV_congr (G := F) (fun i hi => Big.put_ne (by omega))]
theorem V_putB (F : Nat → Nat) (k r : Nat) : Big.V (Big.put F k r) (k + 1) = Big.V F k + r * Big.B ^ k := by
 rw [Big.V_succ, Big.put_at, Big.V_put_low (Nat.le_refl _)]
def Fits (L X : Nat) : Prop := ∃ k, k ≤ L ∧ X < Big.B ^ k
theorem Fits.up {L M X : Nat} (h : Fits L X) (hl : L ≤ M) : Fits M X := by
 obtain ⟨k, a, b⟩ := h
 exact ⟨k, Nat.le_trans a hl, b⟩
theorem Fits.le {L X Y : Nat} (h : Fits L X) (hl : Y ≤ X) : Fits L Y := by
 obtain ⟨k, a, b⟩ := h
 exact ⟨k, a, Nat.lt_of_le_of_lt hl b⟩
theorem Fits.lt {L X : Nat} (h : Fits L X) : X < Big.B ^ L := by
 obtain ⟨k, a, b⟩ := h
 exact Nat.lt_of_lt_of_le b (Nat.pow_le_pow_right Big.B_pos a)
theorem Fits.mul {L M X Y : Nat} (h : Fits L X) (k : Fits M Y) : Fits (L + M) (X * Y) := by
 refine ⟨L + M, Nat.le_refl _, ?_⟩
 rw [Nat.pow_add]
 exact Nat.mul_lt_mul'' h.lt k.lt
theorem Fits.word {n X : Nat} (h : X < B ^ n) : Fits (2 * n) X := ⟨2 * n, Nat.le_refl _, by rw [← BB_pow]; exact h⟩
theorem big_len {f : Nat → Nat} {n L : Nat} (t : Big.Top f n) (h : Fits L (Big.V f n)) : n ≤ L := Big.len_le t h.lt
theorem big_le_len {f g : Nat → Nat} {m n : Nat} (hf : Big.Ws f) (tg : Big.Top g m) (h : Big.V g m ≤ Big.V f n) : m ≤ n := by
 rcases Nat.lt_or_ge n m with z | z
 · have := Big.len_lt hf tg z; omega
 · exact z
theorem D_two : Big.B = 2 ^ 32 := by decide
theorem D_pow (k : Nat) : Big.B ^ k = 2 ^ (32 * k) := by rw [Nat.pow_mul, D_two]
theorem two_fits {s k : Nat} (h : s < 32 * k) : Fits k (2 ^ s) := by
 refine ⟨k, Nat.le_refl _, ?_⟩
 rw [D_pow]
 exact Nat.pow_lt_pow_right (by omega) h
theorem upB_gen {v z P a x t s d r q : Nat} (hv : v + z * P = a * s) (e : d * q + r = x * t + z) : v + r * P + q * (P * d) = a * s + x * (t * P) := by
 have h : r * P + q * (P * d) = (d * q + r) * P := by grind
 rw [e] at h
 grind
structure Big.Row (w : World) (g N : Nat) (F : Nat → Nat) : Prop where
 row : w.rowIs g 70 N (fun i => .int .u32 (F i : Int))
 ws : Big.Ws F
theorem Big.Row.drew {w : World} {g N : Nat} {F : Nat → Nat} (R : Big.Row w g N F) : Big.Row w.drew g N F := ⟨R.row.drew, R.ws⟩
namespace Big.D
structure Sl (w : World) (ao : Option Addr) (n c : Nat) (b o : Nat) (f : Nat → Nat) : Prop where
 le : n ≤ c
 cap : c ≤ maxLen
 addr : 0 < n → ao = some ⟨b, o, none⟩
 blk : 0 < n → b < w.heap.size
 cell : ∀ i, i < n → w.cell? ⟨b, o + i, none⟩ = some (.int .u64 (f i : Int))
 ws : Ws f
theorem Sl.below {w w' : World} {ao : Option Addr} {n c b o : Nat} {f : Nat → Nat} (S : Sl w ao n c b o f) (hb : Below w.heap.size w w') : Sl w' ao n c b o f :=
 ⟨S.le, S.cap, S.addr, fun h => Nat.lt_of_lt_of_le (S.blk h) hb.size, fun i hi => (hb.cell (p := ⟨b, o + i, none⟩) (S.blk (by omega))).trans (S.cell i hi), S.ws⟩
theorem Sl.shorter {w : World} {ao : Option Addr} {n c b o m : Nat} {f : Nat → Nat} (S : Sl w ao n c b o f) (h : m ≤ n) : Sl w ao m c b o f :=
 ⟨Nat.le_trans h S.le, S.cap, fun q => S.addr (by omega), fun q => S.blk (by omega), fun i hi => S.cell i (by omega), S.ws⟩
theorem own_sl {w : World} {base : Nat} {e : TypeId} {v : Value} {k : Nat} {F : Nat → Nat} (h : w.ownsRow base e 1 v k (dV .u64 F k)) (hF : Ws F) :
 ∃ ao c b, v = .slice ao k c ∧ Sl w ao k c b 0 F ∧ (0 < k → base ≤ b) := by
 obtain ⟨ao, c, b, rfl, h1, h2, h3, h4⟩ := own_cells h
 exact ⟨ao, c, b, rfl, ⟨h1, h2, fun q => (h3 q).1, fun q => (h3 q).2.1, h4, hF⟩, fun q => (h3 q).2.2⟩
def NatV (w : World) (v : Value) (X : Nat) : Prop := ∃ ao n c b o f, v = .slice ao n c ∧ Sl w ao n c b o f ∧ Top f n ∧ V f n = X
theorem NatV.below {w w' : World} {v : Value} {X : Nat} (h : NatV w v X) (hb : Below w.heap.size w w') : NatV w' v X := by
 obtain ⟨ao, n, c, b, o, f, e, S, r⟩ := h
 exact ⟨ao, n, c, b, o, f, e, S.below hb, r⟩
theorem Sl.trimmed {w : World} {ao : Option Addr} {n c b o : Nat} {f : Nat → Nat} (S : Sl w ao n c b o f) : NatV w (.slice ao (tl f n) c) (V f n) :=
 ⟨_, _, _, _, _, f, rfl, S.shorter (tl_le f n), tl_top f n, tl_V f n⟩
def NewV (w : World) (base : Nat) (v : Value) (X : Nat) : Prop := ∃ ao n c b o f, v = .slice ao n c ∧ Sl w ao n c b o f ∧ Top f n ∧ V f n = X ∧ (0 < n → base ≤ b)
theorem NewV.nat {w : World} {base : Nat} {v : Value} {X : Nat} (h : NewV w base v X) : NatV w v X := by
 obtain ⟨ao, n, c, b, o, f, e, S, t, r, _⟩ := h
 exact ⟨ao, n, c, b, o, f, e, S, t, r⟩
theorem Sl.trimmedN {w : World} {ao : Option Addr} {n c b o base : Nat} {f : Nat → Nat} (S : Sl w ao n c b o f) (h : 0 < n → base ≤ b) : NewV w base (.slice ao (tl f n) c) (V f n) :=
 ⟨_, _, _, _, _, f, rfl, S.shorter (tl_le f n), tl_top f n, tl_V f n, fun q => h (by have := tl_le f n; omega)⟩
theorem und_big13 : Tryz.prog.underlying 77 = some (.slice 22) := by kernel_rfl
theorem info_u64 : (Tryz.prog.info? 22).map (fun i => (i.zero, i.size, i.bytes)) = some (some (.int .u64 0), 1, 8) := by kernel_rfl
theorem trim_any {w : World} {ao : Option Addr} {n c b o : Nat} {f : Nat → Nat} (S : Sl w ao n c b o f) :
    Calls Tryz.prog 61 #[.slice ao n c] w fun e w' => e = .returned (.slice ao (tl f n) c) ∧ w' = w := by
  have hn : n ≤ maxLen := Nat.le_trans S.le S.cap
  have hnc := S.le
  have hcm := S.cap
  unfold maxLen at hn hcm
  have HS : Hid (Sl w ao n c b o f) := S
  clear S
  go_enter Tryz.func61, Tryz.ntmps61
  go_wp2
  go_loop [3] (fun i => ∃ k : Nat, i = .int .i64 k ∧ k ≤ n ∧ tl f n = tl f k) (fun i => (intOf i).toNat)
  case atStart => exact ⟨n, rfl, Nat.le_refl _, rfl⟩
  case round =>
    obtain ⟨k, rfl, hk, htl⟩ := hrel
    have HT : Hid (tl f n = tl f k) := htl
    clear htl
    by_cases c1 : 0 < k
    · obtain rfl := HS.out.addr (by omega)
      have hc := HS.out.cell (k - 1) (by omega)
      by_cases c3 : f (k - 1) = 0
      · rw [c3] at hc
        have HT2 : Hid (tl f n = tl f (k - 1)) := by
          have a := tl_zero (f := f) (n := k - 1) c3
          rw [show k - 1 + 1 = k by omega] at a
          exact HT.out.trans a
        clear c3
        go_wp2
        go_round
        case rel => exact ⟨k - 1, by go_num, by omega, HT2.out⟩
        case measure => simp [intOf]; omega
      · have c3' : (((f (k - 1) : Nat) : Int) == 0) = false := beq_eq_false_iff_ne.mpr (by omega)
        have HT2 : Hid (tl f n = k) := by
          have a := tl_stop (f := f) (n := k - 1) c3
          rw [show k - 1 + 1 = k by omega] at a
          exact HT.out.trans a
        clear c3
        go_wp2
        go_ret
        exact ⟨by rw [HT2.out]; rfl, rfl⟩
    · obtain rfl : k = 0 := by omega
      have HT2 : Hid (tl f n = 0) := HT.out
      clear HT c1
      cases ao with
      | none =>
        go_wp2
        go_ret
        exact ⟨by rw [HT2.out]; rfl, rfl⟩
      | some a =>
        go_wp2
        go_ret
        exact ⟨by rw [HT2.out]; rfl, rfl⟩
end Big.D
structure Big.D.Row (w : World) (g N : Nat) (F : Nat → Nat) : Prop where
 row : w.rowIs g 22 N (fun i => .int .u64 (F i : Int))
 ws : Big.Ws F
theorem Big.D.Row.set {w : World} {g N : Nat} {F : Nat → Nat} (R : Big.D.Row w g N F) (i : Nat) {r : Nat} (hr : r < Big.B) : Big.D.Row (w.setCell ⟨g, i, none⟩ (.int .u64 (r : Int))) g N (Big.put F i r) := by
 refine ⟨(R.row.set i (.int .u64 (r : Int))).congr fun j hj => ?_, Big.put_Ws R.ws hr⟩
 unfold Big.put
 by_cases c : j = i
 · rw [if_pos c, if_pos c]
 · rw [if_neg c, if_neg c]
theorem Big.D.Row.drew {w : World} {g N : Nat} {F : Nat → Nat} (R : Big.D.Row w g N F) : Big.D.Row w.drew g N F := ⟨R.row.drew, R.ws⟩
theorem Big.D.Row.sl0 {w : World} {g N : Nat} {F : Nat → Nat} (R : Big.D.Row w g N F) (hN : N ≤ maxLen) : Big.D.Sl w (some ⟨g, 0, none⟩) N N g 0 F :=
 ⟨Nat.le_refl _, hN, fun _ => rfl, fun _ => R.row.lt, fun i hi => by rw [Nat.zero_add]; exact R.row.cell hi, R.ws⟩
theorem Big.D.made_row (w : World) (n : Nat) : Big.D.Row (w.alloc (.cells (madeCells #[.int .u64 0] n) 22)) w.heap.size n (fun _ => 0) := ⟨World.rowIs_made _ _ _ _, fun _ => Big.B_pos⟩
theorem dmul_big {w : World} {ao : Option Addr} {n c ba oa : Nat} {f : Nat → Nat} (S : Big.D.Sl w ao n c ba oa f) {bo : Option Addr} {m cb bb ob : Nat} {g : Nat → Nat} (S' : Big.D.Sl w bo m cb bb ob g) (hn : n ≤ 1000) (hm : m ≤ 1000) :
 Calls Tryz.prog 59 #[.slice ao n c, .slice bo m cb] w fun e w' => ∃ v, e = .returned v ∧ Big.D.NatV w' v (Big.V f n * Big.V g m) ∧ Below w.heap.size w w' := by
 have hmk := run_make_row' (P := Tryz.prog) 77 22 (.int .u64 0) 8 Big.D.und_big13 Big.D.info_u64 rfl .i64 .i64 (n + m) (by omega) (by omega)
 simp only [Int.natCast_add] at hmk
 have HS : Hid (Big.D.Sl w ao n c ba oa f) := S
 have HS' : Hid (Big.D.Sl w bo m cb bb ob g) := S'
 clear S S'
 go_enter Tryz.func59, Tryz.ntmps59
 go_wp2
 go_loopw [6] (fun i wr => ∃ (k : Nat) (F' : Nat → Nat), i = .int .i64 (k : Int) ∧ k ≤ n ∧ Big.D.Row wr w.heap.size (n + m) F' ∧ Below w.heap.size w wr ∧ (∀ j, k + m ≤ j → F' j = 0) ∧ Big.V F' (k + m) = Big.V f k * Big.V g m) (fun i _ => n - (intOf i).toNat)
 case atStart => exact ⟨0, fun _ => 0, rfl, Nat.zero_le _, Big.D.made_row _ _, (Below.refl _ _).alloc (Nat.le_refl _) _, fun _ _ => rfl, by rw [Big.V_nought, Big.V_zero, Nat.zero_mul]⟩
 case round =>
  obtain ⟨k, F', rfl, hk, R', hbl, hz, hv⟩ := hrel
  have HZ : Hid (∀ j, k + m ≤ j → F' j = 0) := hz
  have HV : Hid (Big.V F' (k + m) = Big.V f k * Big.V g m) := hv
  have HB : Hid (Below w.heap.size w wr) := hbl
  have HR : Hid (Big.D.Row wr w.heap.size (n + m) F') := R'
  clear hz hv
  by_cases c1 : k < n
  · obtain rfl := HS.out.addr (by omega)
    have hxB := HS.out.ws k
    unfold Big.B at hxB
    clear hbl R'
    go_wp2
    go_loopw [7, 8] (fun cy i w2 => ∃ (j v : Nat) (F2 : Nat → Nat), cy = .int .u64 (v : Int) ∧ i = .int .i64 (j : Int) ∧ j ≤ m ∧ v < 4294967296 ∧ Big.D.Row w2 w.heap.size (n + m) F2 ∧ Below w.heap.size w w2 ∧ (∀ t, t < k ∨ k + j ≤ t → F2 t = F' t) ∧ Big.V (fun t => F2 (k + t)) j + v * Big.B ^ j = Big.V (fun t => F' (k + t)) j + Big.V g j * f k) (fun _ i _ => m - (intOf i).toNat)
    case atStart => exact ⟨0, 0, F', rfl, rfl, Nat.zero_le _, by omega, HR.out, HB.out, fun _ _ => rfl, by simp [Big.V]⟩
    case round =>
     obtain ⟨j, v, F2, rfl, rfl, hj, hv4, R2, hb2, hfr, hVV⟩ := hrel
     have HF : Hid (∀ t, t < k ∨ k + j ≤ t → F2 t = F' t) := hfr
     have HVV : Hid (Big.V (fun t => F2 (k + t)) j + v * Big.B ^ j = Big.V (fun t => F' (k + t)) j + Big.V g j * f k) := hVV
     have HR2 : Hid (Big.D.Row wr w.heap.size (n + m) F2) := R2
     have HB2 : Hid (Below w.heap.size w wr) := hb2
     clear hfr hVV
     by_cases c2 : j < m
     · obtain rfl := HS'.out.addr (by omega)
       have ca := (HS.out.below hb2).cell k c1
       have cb' := (HS'.out.below hb2).cell j c2
       have cz := R2.row.cell (i := k + j) (by omega)
       have fz := R2.row.frozen (k + j)
       have hyB := HS'.out.ws j
       have hzB := R2.ws (k + j)
       unfold Big.B at hyB hzB
       have pm : ((f k : Nat) : Int) * ((g j : Nat) : Int) = ((f k * g j : Nat) : Int) := by rw [Int.natCast_mul]
       have pl : f k * g j ≤ 18446744065119617025 := Nat.mul_le_mul (show f k ≤ 4294967295 by omega) (show g j ≤ 4294967295 by omega)
       have dm := Nat.div_add_mod (v + F2 (k + j) + f k * g j) Big.B
       have st := times_step (β := Big.B) (y := g j) (z := F2 (k + j)) (l := (v + F2 (k + j) + f k * g j) % Big.B) (d := (v + F2 (k + j) + f k * g j) / Big.B) HVV.out (by rw [Nat.mul_comm _ Big.B]; omega)
       have hr : (v + F2 (k + j) + f k * g j) % Big.B < Big.B := Nat.mod_lt _ Big.B_pos
       have hq : (v + F2 (k + j) + f k * g j) / Big.B < 4294967296 := by unfold Big.B; omega
       have e1 : (((f k * g j : Nat) : Int) + ((F2 (k + j) : Nat) : Int) + (v : Int)) % 4294967296 = (((v + F2 (k + j) + f k * g j) % Big.B : Nat) : Int) := by unfold Big.B; omega
       have e2 : (((f k * g j : Nat) : Int) + ((F2 (k + j) : Nat) : Int) + (v : Int)) / 4294967296 = (((v + F2 (k + j) + f k * g j) / Big.B : Nat) : Int) := by unfold Big.B; omega
       have HFK : Hid (F2 (k + j) = F' (k + j)) := HF.out _ (Or.inr (by omega))
       have HST := (show Hid _ from st)
       clear st dm R2 hb2
       generalize (v + F2 (k + j) + f k * g j) % Big.B = r at *
       generalize (v + F2 (k + j) + f k * g j) / Big.B = q at *
       generalize f k * g j = P at *
       have i1 : (0 : Int) ≤ (k : Int) + (j : Int) := by omega
       have i2 : (k : Int) + (j : Int) < (n : Int) + (m : Int) := by omega
       have i3 : (k : Int) < (n : Int) := by omega
       have i4 : (j : Int) < (m : Int) := by omega
       have i5 : IntKind.i64.wrap ((k : Int) + (j : Int)) = (k : Int) + (j : Int) := by rw [IntWalk.i64_left, IntWalk.wrap64_in _ ⟨by omega, by omega⟩]
       have i6 : ((k : Int) + (j : Int)).toNat = k + j := by omega
       have u5 : IntKind.u64.wrap (P : Int) = (P : Int) := by rw [IntKind.wrap_u64]; omega
       have u2 : IntKind.u64.wrap ((P : Int) + ((F2 (k + j) : Nat) : Int)) = (P : Int) + ((F2 (k + j) : Nat) : Int) := by rw [IntKind.wrap_u64]; omega
       have u6 : IntKind.u64.wrap ((P : Int) + ((F2 (k + j) : Nat) : Int) + (v : Int)) = (P : Int) + ((F2 (k + j) : Nat) : Int) + (v : Int) := by rw [IntKind.wrap_u64]; omega
       go_wp2
       go_region_held3 (fun w' => w'.cell? ⟨w.heap.size, k + j, none⟩ = some (.int .u64 ((F2 (k + j) : Nat) : Int)) ∧ w'.cell? ⟨ba, oa + k, none⟩ = some (.int .u64 ((f k : Nat) : Int)) ∧ w'.cell? ⟨bb, ob + j, none⟩ = some (.int .u64 ((g j : Nat) : Int))) (go_keep) (fail)
       go_wp2
       go_roundw
       case rel =>
        refine ⟨j + 1, q, Big.put F2 (k + j) r, by rw [e2], by go_num, by omega, hq, HR2.out.drew.set (k + j) hr, HB2.out.drew.setCell (Nat.le_refl _) _, ?_, ?_⟩
        · intro t ht
          rw [Big.put_ne (by omega)]
          exact HF.out t (by omega)
        · have e : Big.V (fun t => Big.put F2 (k + j) r (k + t)) (j + 1) = Big.V (fun t => F2 (k + t)) j + r * Big.B ^ j := by
           rw [Big.V_succ, Big.V_congr (f := fun t => Big.put F2 (k + j) r (k + t)) (g := fun t => F2 (k + t)) (fun i hi => Big.put_ne (by omega)), Big.put_at]
          rw [e, Big.V_succ (fun t => F' (k + t)), Big.V_succ g, Nat.pow_succ]
          have s := HST.out
          rw [HFK.out] at s
          exact s
       case measure => simp [intOf]; omega
     · obtain rfl : j = m := by omega
       have cz := R2.row.cell (i := k + j) (by omega)
       have fz := R2.row.frozen (k + j)
       have hvB : v < Big.B := hv4
       clear R2 hb2
       go_wp2
       go_roundw
       case rel =>
        refine ⟨k + 1, Big.put F2 (k + j) v, by go_num, by omega, HR2.out.set (k + j) hvB, HB2.out.setCell (Nat.le_refl _) _, ?_, ?_⟩
        · intro t ht
          rw [Big.put_ne (by omega), HF.out t (by omega)]
          exact HZ.out t (by omega)
        · have e1 : Big.V (Big.put F2 (k + j) v) (k + 1 + j) = Big.V F2 (k + j) + v * Big.B ^ (k + j) := by
           rw [show k + 1 + j = k + j + 1 by omega, Big.V_succ, Big.V_put_low (Nat.le_refl _), Big.put_at]
          have e2 := Big.V_split F2 k j
          have e3 := Big.V_split F' k j
          have e4 : Big.V F2 k = Big.V F' k := Big.V_congr fun i hi => HF.out i (by omega)
          rw [e4] at e2
          rw [e1, e2, Big.V_succ f k, Nat.pow_add]
          have e5 := mult_gen (p := Big.B ^ k) HVV.out (u := Big.V F' k) (a := Big.V f k) (by rw [← e3]; exact HV.out)
          rw [← e5]
          exact split_gen2
       case measure => simp [intOf]; omega
  · obtain rfl : k = n := by omega
    have T := Big.D.trim_any (R'.sl0 (by unfold maxLen; omega))
    have NV := (R'.sl0 (by unfold maxLen; omega)).trimmed
    rw [HV.out] at NV
    clear R'
    go_wp2_with fail
    refine T.mono ?_
    rintro e wa ⟨rfl, rfl⟩
    go_wp2
    go_ret
    exact ⟨_, rfl, NV, hbl⟩
theorem dmul_nat {w : World} {va vb : Value} {X Y : Nat} (ha : Big.D.NatV w va X) (hb : Big.D.NatV w vb Y) (hX : Fits 1000 X) (hY : Fits 1000 Y) :
 Calls Tryz.prog 59 #[va, vb] w fun e w' => ∃ v, e = .returned v ∧ Big.D.NatV w' v (X * Y) ∧ Below w.heap.size w w' := by
 obtain ⟨ao, n, c, b, o, f, rfl, S, t, rfl⟩ := ha
 obtain ⟨bo, m, cb, bb, ob, g, rfl, S', t', rfl⟩ := hb
 exact dmul_big S S' (big_len t hX) (big_len t' hY)
theorem made_dV64 (q : Nat) : (madeCells #[.int .u64 0] q).toList = dV .u64 (fun _ => 0) q := by
 apply List.ext_getElem?
 intro i
 by_cases h : i < q
 · rw [dV_get h]; simp [madeCells, h, Nat.mod_one]
 · simp [madeCells, dV, h]
theorem wrap_nat64 {t : Nat} (h : t < 18446744073709551616) : IntKind.u64.wrap (t : Int) = (t : Int) := by rw [IntKind.wrap_u64]; omega
theorem dshl_big {w : World} {ao : Option Addr} {n c b o : Nat} {f : Nat → Nat} (S : Big.D.Sl w ao n c b o f) (hn : n ≤ 1000) (s q p : Nat) (hsq : s = 32 * q + p) (hp : p < 32) (hq : q ≤ 1000) :
 Calls Tryz.prog 57 #[.slice ao n c, .int .i64 (s : Int)] w fun e w' => ∃ v, e = .returned v ∧ Big.D.NewV w' w.heap.size v (Big.V f n * 2 ^ s) ∧ Below w.heap.size w w' := by
 obtain ⟨i0, hi, hz0, hz1, hz2⟩ := info_parts Big.D.info_u64
 have hmk := run_make_row' (P := Tryz.prog) 77 22 (.int .u64 0) 8 Big.D.und_big13 Big.D.info_u64 rfl .i64 .i64 q (by omega) (by omega)
 have HS : Hid (Big.D.Sl w ao n c b o f) := S
 have d1 : (s : Int) / 32 = (q : Int) := by omega
 have d2 : (s : Int) % 32 = (p : Int) := by omega
 have d3 : (s : Int).tdiv 32 = (q : Int) := by rw [Int.tdiv_eq_ediv_of_nonneg (by omega)]; exact d1
 have d4 : (s : Int).tmod 32 = (p : Int) := by rw [Int.tmod_eq_emod_of_nonneg (by omega)]; exact d2
 have hs : s ≤ 33000 := by omega
 have hpp : 2 ^ p ≤ 2147483648 := by have : 2 ^ p ≤ 2 ^ 31 := Nat.pow_le_pow_right (by omega) (by omega); omega
 have sh1 : IntKind.u64.wrap (1 * (2 : Int) ^ p) = ((2 ^ p : Nat) : Int) := by rw [Int.one_mul, pow_cast]; exact wrap_nat64 (by omega)
 have sh2 : IntKind.u64.wrap ((2 : Int) ^ p) = ((2 ^ p : Nat) : Int) := by rw [pow_cast]; exact wrap_nat64 (by omega)
 have tpos := Nat.two_pow_pos p
 have HQ : Hid (2 ^ s = Big.B ^ q * 2 ^ p) := by
  show _ = _
  rw [hsq, Nat.pow_add, D_pow]
 generalize 2 ^ p = t at *
 clear S hsq
 go_enter Tryz.func57, Tryz.ntmps57
 go_wp2
 go_loopw [5, 7, 8] (fun v cy i wr => ∃ (k z : Nat) (F : Nat → Nat), cy = .int .u64 (z : Int) ∧ i = .int .i64 (k : Int) ∧ k ≤ n ∧ z < t ∧ Big.Ws F ∧ wr.ownsRow w.heap.size 22 1 v (q + k) (dV .u64 F (q + k)) ∧ Below w.heap.size w wr ∧ Hid (Big.V F (q + k) + z * Big.B ^ (q + k) = Big.V f k * 2 ^ s)) (fun _ _ i _ => n - (intOf i).toNat)
 case atStart =>
  refine ⟨0, 0, fun _ => 0, rfl, rfl, Nat.zero_le _, tpos, fun _ => Big.B_pos, ?_, (Below.refl _ _).alloc (Nat.le_refl _) _, ?_⟩
  · have q1 := World.ownsRow_lit (base := w.heap.size) (e := 22) (size := 1) w (madeCells #[.int .u64 0] q) q (Nat.le_refl _) (by unfold maxLen; omega) (by simp [madeCells])
    rw [made_dV64] at q1
    exact q1
  · show Big.V (fun _ => 0) (q + 0) + 0 * _ = Big.V f 0 * _
    rw [Big.V_nought, Big.V_zero]; omega
 case round =>
  obtain ⟨k, z, F, rfl, rfl, hk, hzt, hF, hown, hbl, HV⟩ := hrel
  have hsz := hbl.size
  by_cases c1 : k < n
  · obtain rfl := HS.out.addr (by omega)
    have hc := (HS.out.below hbl).cell k c1
    have hxB := HS.out.ws k
    have hP : (f k + 1) * t ≤ Big.B * t := Nat.mul_le_mul_right _ hxB
    rw [Nat.add_mul, Nat.one_mul] at hP
    have dm := Nat.div_add_mod (f k * t + z) Big.B
    have HST : Hid (Big.V F (q + k) + (f k * t + z) % Big.B * Big.B ^ (q + k) + (f k * t + z) / Big.B * (Big.B ^ (q + k) * Big.B) = Big.V f (k + 1) * 2 ^ s) := by
     show _ = _
     have g := upB_gen (P := Big.B ^ (q + k)) HV.out dm
     rw [g, Big.V_succ, Nat.add_mul, HQ.out]
     congr 1
     rw [Nat.mul_assoc (f k), Nat.pow_add]
     generalize Big.B ^ q = x
     generalize Big.B ^ k = y
     rw [Nat.mul_comm t (x * y), Nat.mul_comm x y, Nat.mul_assoc]
    have hqz : (f k * t + z) / Big.B < t := by
     rw [Nat.div_lt_iff_lt_mul Big.B_pos, Nat.mul_comm t Big.B]
     omega
    have hr : (f k * t + z) % Big.B < Big.B := Nat.mod_lt _ Big.B_pos
    have pm : ((f k : Nat) : Int) * (t : Int) = ((f k * t : Nat) : Int) := by rw [Int.natCast_mul]
    have e1 : (((f k * t : Nat) : Int) + (z : Int)) % 4294967296 = (((f k * t + z) % Big.B : Nat) : Int) := by unfold Big.B; omega
    have e2 : (((f k * t : Nat) : Int) + (z : Int)) / 4294967296 = (((f k * t + z) / Big.B : Nat) : Int) := by unfold Big.B; omega
    have pl : f k * t + z < 18446744073709551616 := by
     unfold Big.B at hP
     omega
    unfold Big.B at hxB
    generalize (f k * t + z) % Big.B = r at *
    generalize (f k * t + z) / Big.B = q2 at *
    generalize f k * t = y at *
    clear dm hP
    go_wp2_with (first
     | (at_builtin; refine wpList_append_own _ rfl _ _ 77 rfl w.heap.size 22 i0 (.int .u64 0) 1 8 Big.D.und_big13 hi hz0 hz1 hz2 rfl (by decide) _ _ _ rfl (hown.alloc _) ⟨wr.heap.size, 0, none⟩ 1 1 [.int .u64 (r : Int)] rfl rfl (World.news_of_block (cs := #[.int .u64 (r : Int)]) (t := 22) (fr := (0, 0)) (heap_alloc_new wr _)) (by simp [Value.oneCell']) (by unfold maxLen; omega) (by omega) (by rw [World.size_alloc]; omega) ?_)
     | go_in)
    intro v' w3 hown' hgrow hnil
    have hb3 : Below w.heap.size w w3 := (hbl.alloc (by omega) _).grown hgrow (by rw [World.size_alloc]; omega) (fun q hq => (hown.lt q hq).1)
    have HO3 : Hid (w3.ownsRow w.heap.size 22 1 v' (q + (k + 1)) (dV .u64 (Big.put F (q + k) r) (q + (k + 1))) ∧ Below w.heap.size w w3) := ⟨by rw [← Nat.add_assoc, dV_put]; exact hown', hb3⟩
    clear hown' hb3 hgrow hnil hown hbl
    go_wp2
    go_roundw
    case rel =>
     refine ⟨k + 1, q2, Big.put F (q + k) r, by rw [e2], by go_num, by omega, hqz, Big.put_Ws hF hr, HO3.out.1, HO3.out.2, ?_⟩
     show _ = _
     rw [← Nat.add_assoc, V_putB, Nat.pow_succ]
     exact HST.out
    case measure => simp [intOf]; omega
  · obtain rfl : k = n := by omega
    have HE : Hid (Big.V (Big.put F (q + k) z) (q + k + 1) = Big.V f k * 2 ^ s) := by
     show _ = _
     rw [V_putB, HV.out]
    have hw : Big.Ws (Big.put F (q + k) z) := Big.put_Ws hF (by unfold Big.B; omega)
    go_wp2_with (first
     | (at_builtin; refine wpList_append_own _ rfl _ _ 77 rfl w.heap.size 22 i0 (.int .u64 0) 1 8 Big.D.und_big13 hi hz0 hz1 hz2 rfl (by decide) _ _ _ rfl (hown.alloc _) ⟨wr.heap.size, 0, none⟩ 1 1 [.int .u64 (z : Int)] rfl rfl (World.news_of_block (cs := #[.int .u64 (z : Int)]) (t := 22) (fr := (0, 0)) (heap_alloc_new wr _)) (by simp [Value.oneCell']) (by unfold maxLen; omega) (by omega) (by rw [World.size_alloc]; omega) ?_)
     | go_in)
    intro v' w3 hown' hgrow hnil
    have hb3 : Below w.heap.size w w3 := (hbl.alloc (by omega) _).grown hgrow (by rw [World.size_alloc]; omega) (fun q hq => (hown.lt q hq).1)
    rw [← dV_put] at hown'
    obtain ⟨ao', c', b', rfl, S3, hnw⟩ := Big.D.own_sl hown' hw
    have T := Big.D.trim_any S3
    have NV := S3.trimmedN hnw
    clear hnw
    rw [HE.out] at NV
    clear hown' hgrow hnil hown hbl
    go_wp2_with fail
    refine T.mono ?_
    rintro e wa ⟨rfl, rfl⟩
    go_wp2
    go_ret
    exact ⟨_, rfl, NV, hb3⟩
theorem dshl_new {w : World} {va : Value} {X : Nat} (ha : Big.D.NatV w va X) (hX : Fits 1000 X) (s : Nat) (hs : s ≤ 32000) :
 Calls Tryz.prog 57 #[va, .int .i64 (s : Int)] w fun e w' => ∃ v, e = .returned v ∧ Big.D.NewV w' w.heap.size v (X * 2 ^ s) ∧ Below w.heap.size w w' := by
 obtain ⟨ao, n, c, b, o, f, rfl, S, t, rfl⟩ := ha
 exact dshl_big S (big_len t hX) s (s / 32) (s % 32) (by omega) (by omega) (by omega)
end Go.Proofs.YtohhmobfmmeohaaGreatDoor
