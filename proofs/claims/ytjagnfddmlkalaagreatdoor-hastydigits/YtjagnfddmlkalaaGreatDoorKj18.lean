/-
  Holds: VNatT VNatA VNatB VBigS.
-/
import Derived.Test.YtjagnfddmlkalaaGreatDoorRows
import Derived.Laws.Externs
import Derived.WalkKit
import Derived.WalkSpells
import Derived.WalkLawsBesides
import Derived.Lib.Mul64
import Derived.Deep.OwnRows
import Derived.Laws.CopyOwn
import Derived.BigQuiet
import Derived.Deep.RegionHeld3
import Derived.Test.YtjagnfddmlkalaaGreatDoorKj6
import Derived.Test.YtjagnfddmlkalaaGreatDoorKj17
set_option maxRecDepth 100000
set_option maxHeartbeats 4000000
namespace Go.Proofs.YtjagnfddmlkalaaGreatDoor
open Go.RowKit
theorem mul64N (x y : Nat) (hx : x < B) (hy : y < B) (w : World) :
 Calls Tryz.prog 136 #[.int .u64 (x : Int), .int .u64 (y : Int)] w fun e w' => e = .returned (.tuple #[.int .u64 ((x * y / B : Nat) : Int), .int .u64 ((x * y % B : Nat) : Int)]) ∧ w' = w := by
 unfold B at *
 refine (mul64_any x y ⟨by omega, by omega⟩ ⟨by omega, by omega⟩ w).mono ?_
 rintro e w' ⟨rfl, rfl⟩
 unfold mHi mLo
 exact ⟨rfl, rfl⟩
theorem times_words {x y z v : Nat} (hx : x < B) (hy : y < B) (hz : z < B) (hv : v < B) :
 x * y / B + (x * y % B + z + 0) / B < B ∧ x * y / B + (x * y % B + z + 0) / B + ((x * y % B + z + 0) % B + v + 0) / B < B ∧
  ((x * y % B + z + 0) % B + v + 0) % B + (x * y / B + (x * y % B + z + 0) / B + ((x * y % B + z + 0) % B + v + 0) / B) * B = x * y + z + v := by
 have p : x * y ≤ 18446744073709551615 * 18446744073709551615 := Nat.mul_le_mul (by unfold B at hx; omega) (by unfold B at hy; omega)
 generalize x * y = P at *
 unfold B at *
 omega
theorem times_step {β v a b p x y z c l : Nat} (h : v + c * p = a + b * x) {d : Nat} (e : l + d * β = x * y + z + c) : v + l * p + d * (p * β) = a + z * p + (b + y * p) * x := by
 have : l * p + d * (p * β) = (x * y + z + c) * p := by rw [← e]; grind
 grind
theorem times_any {w : World} {g N o n c : Nat} {F : Nat → Nat} (R : Row w g N F) {zo : Option Addr}
 {bo : Option Addr} {m cb bb ob : Nat} {G : Nat → Nat} (S : Sl w bo m cb bb ob G) (hz : 0 < m → zo = some ⟨g, o, none⟩ ∧ bb ≠ g) (hoN : o + m ≤ N) (hmn : m ≤ n) (x : Nat) (hx : x < B) :
 Calls Tryz.prog 124 #[.slice zo n c, .slice bo m cb, .int .u64 (x : Int)] w fun e w' => ∃ (v : Nat) (F' : Nat → Nat), e = .returned (.int .u64 (v : Int)) ∧ v < B ∧ w.grownBy w' (some g) ∧
  Row w' g N F' ∧ (∀ i, i < o ∨ o + m ≤ i → F' i = F i) ∧ V (fun i => F' (o + i)) m + v * B ^ m = V (fun i => F (o + i)) m + V G m * x := by
 have hm : m ≤ maxLen := Nat.le_trans S.le S.cap
 unfold maxLen at hm
 have HS : Hid (Sl w bo m cb bb ob G) := S
 have HN : Hid (0 < m → zo = some ⟨g, o, none⟩ ∧ bb ≠ g) := hz
 have HW : Hid (x < B) := hx
 clear S hz hx
 go_enter Tryz.func124, Tryz.ntmps124
 go_wp2
 go_loopw [7, 15] (fun ov i wr => ∃ (k v : Nat) (F' : Nat → Nat), ov = .int .u64 (v : Int) ∧ i = .int .i64 (k : Int) ∧ k ≤ m ∧ v < B ∧ Row wr g N F' ∧ w.grownBy wr (some g) ∧ (∀ i, i < o ∨ o + k ≤ i → F' i = F i) ∧ V (fun i => F' (o + i)) k + v * B ^ k = V (fun i => F (o + i)) k + V G k * x) (fun _ i _ => m - (intOf i).toNat)
 case atStart => exact ⟨0, 0, F, rfl, rfl, Nat.zero_le _, B_pos, R, World.grownBy.refl _ _, fun i _ => rfl, by simp [V]⟩
 case round =>
  obtain ⟨k, v, F', rfl, rfl, hk, hv, R', hgr, hfr, hVV⟩ := hrel
  have HF : Hid (∀ i, i < o ∨ o + k ≤ i → F' i = F i) := hfr
  have HV : Hid (V (fun i => F' (o + i)) k + v * B ^ k = V (fun i => F (o + i)) k + V G k * x) := hVV
  have HR : Hid (Row wr g N F') := R'
  have HG : Hid (w.grownBy wr (some g)) := hgr
  have HB : Hid (v < B) := hv
  clear hfr hVV hv
  by_cases c1 : k < m
  · obtain ⟨rfl, ne⟩ := HN.out (by omega)
    obtain rfl := HS.out.addr (by omega)
    have hb := HS.out.blk (by omega)
    have cb0 := HS.out.cell k c1
    have cb1 : wr.cell? ⟨bb, ob + k, none⟩ = some (.int .u64 (G k : Int)) := by
     rw [World.cell?_of_block (w := w) (hgr.block bb hb (by intro e; exact ne (Option.some.inj e)))]; exact cb0
    have cz := R'.row.cell (i := o + k) (by omega)
    have fz := R'.row.frozen (o + k)
    have ml := fun W => mul64N x (G k) HW.out (HS.out.ws _) W
    have a1 : ∀ W, (callFunc 119 #[.int .u64 ((x * G k % B : Nat) : Int), .int .u64 ((F' (o + k) : Nat) : Int), .int .u64 0]).run Tryz.prog W = .ok (.value (.tuple #[.int .u64 (((x * G k % B + F' (o + k) + 0) % B : Nat) : Int), .int .u64 (((x * G k % B + F' (o + k) + 0) / B : Nat) : Int)])) W := fun W => add64N _ _ 0 (Nat.mod_lt _ B_pos) (R'.ws _) (by omega) W
    have a2 : ∀ W, (callFunc 119 #[.int .u64 (((x * G k % B + F' (o + k) + 0) % B : Nat) : Int), .int .u64 (v : Int), .int .u64 0]).run Tryz.prog W = .ok (.value (.tuple #[.int .u64 ((((x * G k % B + F' (o + k) + 0) % B + v + 0) % B : Nat) : Int), .int .u64 ((((x * G k % B + F' (o + k) + 0) % B + v + 0) / B : Nat) : Int)])) W := fun W => add64N _ _ 0 (Nat.mod_lt _ B_pos) HB.out (by omega) W
    obtain ⟨t1, t2, t3⟩ := times_words HW.out (HS.out.ws k) (R'.ws (o + k)) HB.out
    have hr : ((x * G k % B + F' (o + k) + 0) % B + v + 0) % B < B := Nat.mod_lt _ B_pos
    have st := times_step HV.out t3
    have hF : F' (o + k) = F (o + k) := HF.out _ (Or.inr (by omega))
    have HFK : Hid (F' (o + k) = F (o + k)) := hF
    clear R' hgr cb0 t3 hF
    generalize ((x * G k % B + F' (o + k) + 0) % B + v + 0) % B = r at *
    generalize ((x * G k % B + F' (o + k) + 0) % B + v + 0) / B = q2 at *
    generalize (x * G k % B + F' (o + k) + 0) % B = l2 at *
    generalize (x * G k % B + F' (o + k) + 0) / B = q1 at *
    generalize x * G k % B = l1 at *
    generalize x * G k / B = h1 at *
    have HST := (show Hid _ from st)
    have HT2 : Hid (h1 + q1 + q2 < B) := t2
    have t1' : h1 + q1 < 18446744073709551616 := t1
    have t2' : h1 + q1 + q2 < 18446744073709551616 := t2
    clear st t1 t2
    go_wp2_with (go_at_call 136; refine (ml _).mono ?_; rintro e wa ⟨rfl, rfl⟩)
    go_roundw
    case rel =>
     refine ⟨k + 1, h1 + q1 + q2, put F' (o + k) r, by push_cast; rfl, by go_num, by omega, HT2.out, HR.out.set (o + k) hr, grown_set HG.out _, ?_, ?_⟩
     · intro i hi
       rw [put_ne (by omega)]
       exact HF.out i (by omega)
     · have e : V (fun i => put F' (o + k) r (o + i)) (k + 1) = V (fun i => F' (o + i)) k + r * B ^ k := by
        rw [V_succ, V_congr (f := fun i => put F' (o + k) r (o + i)) (g := fun i => F' (o + i)) (fun i hi => put_ne (by omega)), put_at]
       rw [e, V_succ (fun i => F (o + i)), V_succ G, Nat.pow_succ]
       have s := HST.out
       rw [HFK.out] at s
       exact s
    case measure => simp [intOf]; omega
  · obtain rfl : k = m := by omega
    clear R' hgr
    go_wp2
    go_ret
    exact ⟨v, F', rfl, HB.out, HG.out, HR.out, HF.out, HV.out⟩
theorem und_nat : Tryz.prog.underlying 102 = some (.slice 22) := by kernel_rfl
theorem info_u64 : (Tryz.prog.info? 22).map (fun i => (i.zero, i.size, i.bytes)) = some (some (.int .u64 0), 1, 8) := by kernel_rfl
def NatV (w : World) (v : Value) (X : Nat) : Prop := ∃ ao n c b o f, v = .slice ao n c ∧ Sl w ao n c b o f ∧ Top f n ∧ V f n = X ∧ n ≤ 128
theorem NatV.below {w w' : World} {v : Value} {X : Nat} (h : NatV w v X) (hb : Below w.heap.size w w') : NatV w' v X := by
 obtain ⟨ao, n, c, b, o, f, e, S, r⟩ := h
 exact ⟨ao, n, c, b, o, f, e, S.below hb, r⟩
theorem below_grown {w w0 w' : World} {g : Nat} (h : Below w.heap.size w w0) (hg : w0.grownBy w' (some g)) (hl : w.heap.size ≤ g) : Below w.heap.size w w' :=
 h.grown hg h.size (fun k e => by have := Option.some.inj e; omega)
theorem split_gen2 {u t v p q : Nat} : u + t * p + v * (p * q) = u + (t + v * q) * p := by grind
theorem mult_gen {a b x p s t v q u : Nat} (h : t + v * q = s + b * x) (e : u + s * p = a * b) : u + (t + v * q) * p = (a + x * p) * b := by
 rw [h]; grind
theorem multiply_any {w : World} {ao : Option Addr} {n c ba oa : Nat} {f : Nat → Nat} (S : Sl w ao n c ba oa f) {bo : Option Addr} {m cb bb ob : Nat} {G : Nat → Nat} (S' : Sl w bo m cb bb ob G) (hn : n ≤ 1000) (hm : m ≤ 1000) :
 Calls Tryz.prog 90 #[.slice ao n c, .slice bo m cb] w fun e w' => e = .returned (.slice (some ⟨w.heap.size, 0, none⟩) (n + m) (n + m)) ∧ Below w.heap.size w w' ∧
  ∃ F, Row w' w.heap.size (n + m) F ∧ V F (n + m) = V f n * V G m := by
 have hmk := run_make_row' (P := Tryz.prog) 102 22 (.int .u64 0) 8 und_nat info_u64 rfl .i64 .i64 (n + m) (by omega) (by omega)
 simp only [Int.natCast_add] at hmk
 have HS : Hid (Sl w ao n c ba oa f) := S
 have HS' : Hid (Sl w bo m cb bb ob G) := S'
 clear S S'
 go_enter Tryz.func90, Tryz.ntmps90
 go_wp2
 go_loopw [16] (fun i wr => ∃ (k : Nat) (F' : Nat → Nat), i = .int .i64 (k : Int) ∧ k ≤ n ∧ Row wr w.heap.size (n + m) F' ∧ Below w.heap.size w wr ∧ (∀ j, k + m ≤ j → F' j = 0) ∧ V F' (k + m) = V f k * V G m) (fun i _ => n - (intOf i).toNat)
 case atStart => exact ⟨0, fun _ => 0, rfl, Nat.zero_le _, ⟨World.rowIs_made _ _ _ _, fun _ => B_pos⟩, (Below.refl _ _).alloc (Nat.le_refl _) _, fun _ _ => rfl, by rw [V_nought, V_zero, Nat.zero_mul]⟩
 case round =>
  obtain ⟨k, F', rfl, hk, R', hbl, hz, hv⟩ := hrel
  have HZ : Hid (∀ j, k + m ≤ j → F' j = 0) := hz
  have HV : Hid (V F' (k + m) = V f k * V G m) := hv
  have HB : Hid (Below w.heap.size w wr) := hbl
  have HR : Hid (Row wr w.heap.size (n + m) F') := R'
  clear hz hv
  by_cases c1 : k < n
  · obtain rfl := HS.out.addr (by omega)
    have hc := (HS.out.below hbl).cell k c1
    have T := times_any (g := w.heap.size) (o := k) (zo := some ⟨w.heap.size, k, none⟩) (n := m) (c := n + m - k) R' (HS'.out.below hbl) (fun q => ⟨rfl, Nat.ne_of_lt (HS'.out.blk q)⟩) (by omega) (Nat.le_refl _) (f k) (HS.out.ws k)
    clear hbl R'
    go_wp2_with fail
    refine T.mono ?_
    rintro e wa ⟨v, F2, rfl, hvB, hg, R2, hfr, hvv⟩
    have cz := R2.row.cell (i := k + m) (by omega)
    have fz := R2.row.frozen (k + m)
    have HR2 : Hid (Row wa w.heap.size (n + m) F2) := R2
    have HF : Hid (∀ i, i < k ∨ k + m ≤ i → F2 i = F' i) := hfr
    have HVV : Hid (V (fun i => F2 (k + i)) m + v * B ^ m = V (fun i => F' (k + i)) m + V G m * f k) := hvv
    have HG : Hid (Below w.heap.size w wa) := below_grown HB.out hg (Nat.le_refl _)
    have HVB : Hid (v < B) := hvB
    clear R2 hfr hvv hg hvB
    go_wp2
    go_roundw
    case rel =>
     refine ⟨k + 1, put F2 (k + m) v, by go_num, by omega, HR2.out.set (k + m) HVB.out, HG.out.setCell (Nat.le_refl _) _, ?_, ?_⟩
     · intro j hj
       rw [put_ne (by omega), HF.out j (by omega)]
       exact HZ.out j (by omega)
     · have e1 : V (put F2 (k + m) v) (k + 1 + m) = V F2 (k + m) + v * B ^ (k + m) := by
        rw [show k + 1 + m = k + m + 1 by omega, V_succ, V_put_low (Nat.le_refl _), put_at]
       have e2 := V_split F2 k m
       have e3 := V_split F' k m
       have e4 : V F2 k = V F' k := V_congr fun i hi => HF.out i (by omega)
       rw [e4] at e2
       rw [e1, e2, V_succ f k, Nat.pow_add]
       have e5 := mult_gen (p := B ^ k) HVV.out (u := V F' k) (a := V f k) (by rw [← e3]; exact HV.out)
       rw [← e5]
       exact split_gen2
    case measure => simp [intOf]; omega
  · obtain rfl : k = n := by omega
    clear R' hbl
    go_wp2
    go_ret
    exact ⟨rfl, HB.out, F', HR.out, HV.out⟩
theorem natv_tl {w : World} {g N : Nat} {F : Nat → Nat} (R : Row w g N F) (hN : N ≤ maxLen) {X : Nat} (hX : V F N = X) (hlt : X < B ^ 128) :
 NatV w (.slice (some ⟨g, 0, none⟩) (tl F N) (tl F N)) X ∧ tl F N ≤ 128 := by
 have t := tl_top F N
 have v := tl_V F N
 have l := tl_le F N
 have h : tl F N ≤ 128 := len_le t (by rw [v, hX]; exact hlt)
 refine ⟨⟨_, _, _, g, 0, F, rfl, ?_, t, v.trans hX, h⟩, h⟩
 have S := R.sl (o := 0) (n := tl F N) (c := tl F N) (by omega) (Nat.le_refl _) (by omega)
 have e : (fun i => F (0 + i)) = F := funext fun i => by rw [Nat.zero_add]
 rw [e] at S
 exact S
theorem row_sl0 {w : World} {g N : Nat} {F : Nat → Nat} (R : Row w g N F) (hN : N ≤ maxLen) : Sl w (some ⟨g, 0, none⟩) N N g 0 F := by
 have S := R.sl (o := 0) (n := N) (c := N) (by omega) (Nat.le_refl _) hN
 have e : (fun i => F (0 + i)) = F := funext fun i => by rw [Nat.zero_add]
 rw [e] at S
 exact S
theorem mul_ok {w : World} {va vb : Value} {X Y : Nat} (ha : NatV w va X) (hb : NatV w vb Y) (h : X * Y < B ^ 128) :
 Calls Tryz.prog 52 #[va, vb] w fun e w' => ∃ v, e = .returned (.tuple #[v, .nilIface]) ∧ NatV w' v (X * Y) ∧ Below w.heap.size w w' := by
 obtain ⟨ao, n, c, b, o, f, rfl, S, t, rfl, hn⟩ := ha
 obtain ⟨bo, m, cb, bb, ob, G, rfl, S', t', rfl, hm⟩ := hb
 have h1 := both_any S S'
 rw [verr2_ok hn t hm t'] at h1
 unfold errV at h1
 have HH : Hid (V f n * V G m < B ^ 128) := h
 clear h
 go_enter Tryz.func52, Tryz.ntmps52
 go_wp2_with fail
 refine h1.mono ?_
 rintro e wa ⟨rfl, hba⟩
 have T := multiply_any (S.below hba) (S'.below hba) (by omega) (by omega)
 go_wp2_with fail
 refine T.mono ?_
 rintro e wb ⟨rfl, hbb, F, R, hv⟩
 obtain ⟨nv, hl⟩ := natv_tl R (by unfold maxLen; omega) hv HH.out
 have FT := fit_ok (row_sl0 R (by unfold maxLen; omega)) hl
 go_wp2_with fail
 refine FT.mono ?_
 rintro e wc ⟨rfl, rfl⟩
 go_wp2
 refine bodyPost_ret (v := .tuple #[.slice (some ⟨wa.heap.size, 0, none⟩) (tl F (n + m)) (tl F (n + m)), .nilIface]) (by simp [results, Tryz.results52, go_sem]) rfl ⟨_, rfl, nv, hba.trans (hbb.mono hba.size)⟩
theorem size_u64 : (Tryz.prog.info? 22).map (·.size) = some 1 := by kernel_rfl
theorem block_setRow {w : World} {g : Nat} {cs : Array Value} {k : Nat} (h : k ≠ g) : (w.setRow g cs).heap[k]? = w.heap[k]? := by
 simp only [World.setRow, Array.getElem?_modify]
 rw [if_neg (by omega)]
theorem size_setRow (w : World) (g : Nat) (cs : Array Value) : (w.setRow g cs).heap.size = w.heap.size := by simp [World.setRow]
theorem copy_run {w : World} {g N : Nat} {F : Nat → Nat} (R : Row w g N F) {ao : Option Addr} {n c b o cz : Nat} {f : Nat → Nat} (S : Sl w ao n c b o f) (hn : n ≤ N) :
 ∃ w2, (Builtin.copy_ #[102, 102] 3 #[.slice (some ⟨g, 0, none⟩) N cz, .slice ao n c]).run Tryz.prog w = .ok (.int .i64 (n : Int)) w2 ∧ Row w2 g N (fun i => if i < n then f i else F i) ∧ w.grownBy w2 (some g) := by
 have hws : Ws (fun i => if i < n then f i else F i) := by intro i; show (if i < n then f i else F i) < B; split; exact S.ws i; exact R.ws i
 by_cases h0 : n = 0
 · subst h0
   refine ⟨w, run_copy_none w _ _ 3 22 _ _ _ _ _ _ und_nat size_u64 (by simp), ⟨R.row.congr fun i hi => ?_, hws⟩, World.grownBy.refl _ _⟩
   rw [if_neg (by omega)]
 · obtain rfl := S.addr (by omega)
   obtain ⟨cur, hg, hs, hc⟩ := R.row
   have hlen : ((List.range n).map fun i => Value.int .u64 (f i : Int)).length = n := by simp
   have e := run_copy_row (P := Tryz.prog) w 102 102 3 22 g 0 N cz ⟨b, o, none⟩ n c cur 22 ((List.range n).map fun i => Value.int .u64 (f i : Int)) und_nat size_u64 hg (by rw [hlen]; exact (Nat.min_eq_left hn).symm)
    (fun j v hv => by
     rw [List.getElem?_map] at hv
     have hj : j < n := by
      rcases Nat.lt_or_ge j n with q | q
      · exact q
      · rw [List.getElem?_eq_none (by simpa using q)] at hv; cases hv
     rw [List.getElem?_range hj] at hv
     have := Option.some.inj hv
     rw [← this]
     have q := S.cell j hj
     by_cases z : j = 0
     · subst z; simpa [Addr.add] using q
     · simpa [Addr.add, z] using q) (by rw [hlen, hs]; omega) (by intro v hv; obtain ⟨i, _, rfl⟩ := List.mem_map.1 hv; rfl)
   rw [hlen] at e
   refine ⟨_, e, ⟨⟨_, setRow_heap w g cur _ 22 (0, 0) hg, ?_, fun i hi => ?_⟩, hws⟩, ⟨rfl, rfl, rfl, by rw [size_setRow]; exact Nat.le_refl _, fun k hk hne => block_setRow (fun q => hne (by rw [q]))⟩⟩
   · simp [hs]; omega
   · have hcl : cur.toList.length = N := by simpa using hs
     simp only [List.take_zero, List.nil_append, Nat.zero_add, List.getElem?_toArray]
     by_cases q : i < n
     · rw [if_pos q, List.getElem?_append_left (by rw [hlen]; exact q), List.getElem?_map, List.getElem?_range q]
       rfl
     · rw [if_neg q, List.getElem?_append_right (by rw [hlen]; omega), hlen, List.getElem?_drop, show n + (i - n) = i by omega]
       simpa using hc i hi
theorem made_row (w : World) (n : Nat) : Row (w.alloc (.cells (madeCells #[.int .u64 0] n) 22)) w.heap.size n (fun _ => 0) := ⟨World.rowIs_made _ _ _ _, fun _ => B_pos⟩
def dV (K : IntKind) (F : Nat → Nat) (k : Nat) : List Value := (List.range k).map fun i => Value.int K (F i : Int)
theorem dV_succ (K : IntKind) (F : Nat → Nat) (k : Nat) : dV K F (k + 1) = dV K F k ++ [Value.int K (F k : Int)] := by
 unfold dV; rw [List.range_succ, List.map_append]; rfl
theorem dV_congr {K : IntKind} {F G : Nat → Nat} {k : Nat} (h : ∀ i, i < k → F i = G i) : dV K F k = dV K G k := by
 unfold dV
 exact List.map_congr_left fun i hi => by rw [h i (List.mem_range.1 hi)]
theorem dV_get {K : IntKind} {F : Nat → Nat} {k i : Nat} (h : i < k) : (dV K F k)[i]? = some (.int K (F i : Int)) := by
 unfold dV; rw [List.getElem?_map, List.getElem?_range h]; rfl
theorem own_cells {w : World} {base : Nat} {e : TypeId} {v : Value} {k : Nat} {K : IntKind} {F : Nat → Nat} (h : w.ownsRow base e 1 v k (dV K F k)) :
 ∃ ao c b, v = .slice ao k c ∧ k ≤ c ∧ c ≤ maxLen ∧ (0 < k → ao = some ⟨b, 0, none⟩ ∧ b < w.heap.size ∧ base ≤ b) ∧ ∀ i, i < k → w.cell? ⟨b, 0 + i, none⟩ = some (.int K (F i : Int)) := by
 rcases h.2 with ⟨rfl, rfl⟩ | ⟨g, cap, cur, rfl, hbg, hheap, hle, hmx, hcs, htk⟩
 · exact ⟨none, 0, 0, rfl, Nat.le_refl _, Nat.zero_le _, fun h => absurd h (by omega), fun i h => absurd h (by omega)⟩
 · rw [Nat.mul_one] at hcs htk
   refine ⟨_, cap, g, rfl, hle, hmx, fun _ => ⟨rfl, (Array.getElem?_eq_some_iff.1 hheap).1, hbg⟩, fun i hi => ?_⟩
   have q : (cur.toList.take k)[i]? = some (.int K (F i : Int)) := by rw [htk]; exact dV_get hi
   rw [List.getElem?_take_of_lt hi] at q
   have q3 : cur[i]? = some (.int K (F i : Int)) := by simpa using q
   rw [Nat.zero_add]
   simp [World.cell?, hheap, q3]
end Go.Proofs.YtjagnfddmlkalaaGreatDoor
