/-
  What the document's answers of layers 2, 3, 11 and 12 are, as far as layer 14 asks them.
-/
import Derived.Test.YtfoaeholbidngaaGreatDoorEx1
namespace Go.Proofs.YtfoaeholbidngaaGreatDoor
open Go.RowKit

/-- What the memory of the document's shifts holds: a box with the number, and the place of the answer. -/
structure LInv (N : Nat) (w wr : World) (h l : Int) : Prop where
  box0 : wr.cell? ⟨N, 0, none⟩ = some (.int .u64 h)
  box1 : wr.cell? ⟨N, 1, none⟩ = some (.int .u64 l)
  fz0 : ∀ o, wr.frozen? ⟨N, o, none⟩ = false
  res0 : wr.cell? ⟨N + 1, 0, none⟩ = some (.int .u64 0)
  res1 : wr.cell? ⟨N + 1, 1, none⟩ = some (.int .u64 0)
  fz1 : ∀ o, wr.frozen? ⟨N + 1, o, none⟩ = false
  below : Below N w wr
  size : N + 2 ≤ wr.heap.size
theorem LInv.step {N : Nat} {w wr : World} {h l : Int} (I : LInv N w wr h l) (h' l' : Int) : LInv N w ((wr.setCell ⟨N, 0, none⟩ (.int .u64 h')).setCell ⟨N, 1, none⟩ (.int .u64 l')) h' l' := by
  refine ⟨?_, ?_, ?_, ?_, ?_, ?_, ?_, ?_⟩
  · rw [World.cell?_setCell_other _ _ _ _ (by simp)]
    exact World.cell?_setCell_same _ _ _ I.box0
  · exact World.cell?_setCell_same _ _ _ ((World.cell?_setCell_other _ _ _ _ (by simp)).trans I.box1)
  · intro o; simp only [World.frozen?_setCell]; exact I.fz0 o
  · rw [World.cell?_setCell_other _ _ _ _ (by simp), World.cell?_setCell_other _ _ _ _ (by simp)]; exact I.res0
  · rw [World.cell?_setCell_other _ _ _ _ (by simp), World.cell?_setCell_other _ _ _ _ (by simp)]; exact I.res1
  · intro o; simp only [World.frozen?_setCell]; exact I.fz1 o
  · exact (I.below.setCell (Nat.le_refl _) _).setCell (Nat.le_refl _) _
  · simp only [World.size_setCell]; exact I.size
/-- A digit's byte. -/
def ch (d : Nat) : Nat := if d < 10 then 48 + d else 87 + d
def chV (xs : List Nat) : List Value := xs.map fun d => Value.int .u8 ((ch d : Nat) : Int)
/-- The lowest digits, the lowest first. -/
def lows (b x k : Nat) : List Nat := (List.range k).map fun j => x / b ^ j % b
theorem lows_succ (b x k : Nat) : lows b x (k + 1) = lows b x k ++ [x / b ^ k % b] := by unfold lows; rw [List.range_succ, List.map_append]; rfl
theorem ch_at {r : Nat} (h : r < 36) : ∀ hh, ((⟨#[48, 49, 50, 51, 52, 53, 54, 55, 56, 57, 97, 98, 99, 100, 101, 102, 103, 104, 105, 106, 107, 108, 109, 110, 111, 112, 113, 114, 115, 116, 117, 118, 119, 120, 121, 122]⟩ : ByteArray)[r]'hh).toNat = ch r := by
  have key : ∀ r : Fin 36, ((⟨#[48, 49, 50, 51, 52, 53, 54, 55, 56, 57, 97, 98, 99, 100, 101, 102, 103, 104, 105, 106, 107, 108, 109, 110, 111, 112, 113, 114, 115, 116, 117, 118, 119, 120, 121, 122]⟩ : ByteArray)[r.val]'r.isLt).toNat = ch r.val := by decide
  intro hh
  exact key ⟨r, h⟩
theorem chV_append (xs ys : List Nat) : chV (xs ++ ys) = chV xs ++ chV ys := by unfold chV; rw [List.map_append]
theorem und_text : Tryz.prog.underlying 160 = some (.slice 5) := by kernel_rfl
theorem info_u8 : (Tryz.prog.info? 5).map (fun i => (i.zero, i.size, i.bytes)) = some (some (.int .u8 0), 1, 1) := by kernel_rfl
def textLen : Value → Nat | .string s => s.size | _ => 0
theorem ext_zero (s : ByteArray) : s.extract 0 s.size = s := by
  apply ByteArray.ext
  simp
theorem ext_size {s : ByteArray} {k : Nat} (h : k ≤ s.size) : (s.extract k s.size).size = s.size - k := by
  rw [ByteArray.size_extract]; omega
/-- The digits, so many from the lowest on, the highest first, as a text. -/
def rowText (b x k : Nat) : ByteArray := strOfNums ((List.range k).map fun i => ((ch (x / b ^ (k - 1 - i) % b) : Nat) : Int))
theorem few {X n r k b : Nat} (hb : 2 ≤ b) (hX : X < B ^ 128) (h : X / b ^ (r * k) ≠ 0) (hn : n = r * k) : n ≤ 8192 := by
  subst hn
  rcases Nat.lt_or_ge 8192 (r * k) with c | c
  · exfalso
    apply h
    apply Nat.div_eq_of_lt
    refine Nat.lt_of_lt_of_le hX ?_
    rw [B_pow]
    have c' : 64 * 128 ≤ r * k := by omega
    generalize 64 * 128 = N at *
    exact Nat.le_trans (Nat.pow_le_pow_right (by omega) c') (Nat.pow_le_pow_left hb _)
  · exact c
theorem ch_lt {d : Nat} (h : d < 36) : ch d < 256 := by unfold ch; split <;> omega
theorem rowText_size (b x k : Nat) : (rowText b x k).size = k := by unfold rowText; rw [strOfNums_size]; simp
theorem und_byte8 : Tryz.prog.underlying 5 = some (.int .u8) := by kernel_rfl
theorem und_str9 : Tryz.prog.underlying 9 = some .string := by kernel_rfl
theorem wrap_lo32 {t : Nat} (h : t < Big.B) : IntKind.u32.wrap (t : Int) = (t : Int) := by rw [IntKind.wrap_u32]; unfold Big.B at h; omega
theorem Big.Row.drew {w : World} {g N : Nat} {F : Nat → Nat} (R : Big.Row w g N F) : Big.Row w.drew g N F := ⟨R.row.drew, R.ws⟩
set_option maxRecDepth 100000 in
set_option maxHeartbeats 4000000 in
theorem times_big {w : World} {ao : Option Addr} {n c ba oa : Nat} {f : Nat → Nat} (S : Big.Sl w ao n c ba oa f) {bo : Option Addr} {m cb bb ob : Nat} {g : Nat → Nat} (S' : Big.Sl w bo m cb bb ob g) (hn : n ≤ 1000) (hm : m ≤ 1000) :
    Calls Tryz.prog 69 #[.slice ao n c, .slice bo m cb] w fun e w' => ∃ v, e = .returned v ∧ Big.NatV w' v (Big.V f n * Big.V g m) ∧ Below w.heap.size w w' := by
  have hmk := run_make_row' (P := Tryz.prog) 69 112 (.int .u32 0) 4 Big.und_big Big.info_u32 rfl .i64 .i64 (n + m) (by omega) (by omega)
  simp only [Int.natCast_add] at hmk
  have HS : Hid (Big.Sl w ao n c ba oa f) := S
  have HS' : Hid (Big.Sl w bo m cb bb ob g) := S'
  clear S S'
  go_enter Tryz.func69, Tryz.ntmps69
  go_wp2
  go_loopw [6] (fun i wr => ∃ (k : Nat) (F' : Nat → Nat), i = .int .i64 (k : Int) ∧ k ≤ n ∧ Big.Row wr w.heap.size (n + m) F' ∧ Below w.heap.size w wr ∧ (∀ j, k + m ≤ j → F' j = 0) ∧ Big.V F' (k + m) = Big.V f k * Big.V g m) (fun i _ => n - (intOf i).toNat)
  case atStart => exact ⟨0, fun _ => 0, rfl, Nat.zero_le _, Big.made_row _ _, (Below.refl _ _).alloc (Nat.le_refl _) _, fun _ _ => rfl, by rw [Big.V_nought, Big.V_zero, Nat.zero_mul]⟩
  case round =>
    obtain ⟨k, F', rfl, hk, R', hbl, hz, hv⟩ := hrel
    have HZ : Hid (∀ j, k + m ≤ j → F' j = 0) := hz
    have HV : Hid (Big.V F' (k + m) = Big.V f k * Big.V g m) := hv
    have HB : Hid (Below w.heap.size w wr) := hbl
    have HR : Hid (Big.Row wr w.heap.size (n + m) F') := R'
    clear hz hv
    by_cases c1 : k < n
    · obtain rfl := HS.out.addr (by omega)
      have hxB := HS.out.ws k
      unfold Big.B at hxB
      clear hbl R'
      go_wp2
      go_loopw [7, 8] (fun cy i w2 => ∃ (j v : Nat) (F2 : Nat → Nat), cy = .int .u64 (v : Int) ∧ i = .int .i64 (j : Int) ∧ j ≤ m ∧ v < 4294967296 ∧ Big.Row w2 w.heap.size (n + m) F2 ∧ Below w.heap.size w w2 ∧ (∀ t, t < k ∨ k + j ≤ t → F2 t = F' t) ∧ Big.V (fun t => F2 (k + t)) j + v * Big.B ^ j = Big.V (fun t => F' (k + t)) j + Big.V g j * f k) (fun _ i _ => m - (intOf i).toNat)
      case atStart => exact ⟨0, 0, F', rfl, rfl, Nat.zero_le _, by omega, HR.out, HB.out, fun _ _ => rfl, by simp [Big.V]⟩
      case round =>
        obtain ⟨j, v, F2, rfl, rfl, hj, hv4, R2, hb2, hfr, hVV⟩ := hrel
        have HF : Hid (∀ t, t < k ∨ k + j ≤ t → F2 t = F' t) := hfr
        have HVV : Hid (Big.V (fun t => F2 (k + t)) j + v * Big.B ^ j = Big.V (fun t => F' (k + t)) j + Big.V g j * f k) := hVV
        have HR2 : Hid (Big.Row wr w.heap.size (n + m) F2) := R2
        have HB2 : Hid (Below w.heap.size w wr) := hb2
        clear hfr hVV
        by_cases c2 : j < m
        · obtain rfl := HS'.out.addr (by omega)
          have ca := (HS.out.below hb2).cell k c1
          have cb' := (HS'.out.below hb2).cell j c2
          have cz := R2.row.cell (i := k + j) (by omega)
          have fz := R2.row.frozen (k + j)
          have hyB := HS'.out.ws j
          have hzB := R2.ws (k + j)
          unfold Big.B at hyB hzB
          have pm : ((f k : Nat) : Int) * ((g j : Nat) : Int) = ((f k * g j : Nat) : Int) := by rw [Int.natCast_mul]
          have pl : f k * g j ≤ 18446744065119617025 := Nat.mul_le_mul (show f k ≤ 4294967295 by omega) (show g j ≤ 4294967295 by omega)
          have dm := Nat.div_add_mod (v + F2 (k + j) + f k * g j) Big.B
          have st := times_step (β := Big.B) (y := g j) (z := F2 (k + j)) (l := (v + F2 (k + j) + f k * g j) % Big.B) (d := (v + F2 (k + j) + f k * g j) / Big.B) HVV.out (by rw [Nat.mul_comm _ Big.B]; omega)
          have hr : (v + F2 (k + j) + f k * g j) % Big.B < Big.B := Nat.mod_lt _ Big.B_pos
          have hq : (v + F2 (k + j) + f k * g j) / Big.B < 4294967296 := by unfold Big.B; omega
          have e1 : IntKind.u32.wrap ((v : Int) + ((F2 (k + j) : Nat) : Int) + ((f k * g j : Nat) : Int)) = (((v + F2 (k + j) + f k * g j) % Big.B : Nat) : Int) := by rw [IntKind.wrap_u32]; unfold Big.B; omega
          have e2 : ((v : Int) + ((F2 (k + j) : Nat) : Int) + ((f k * g j : Nat) : Int)) / 4294967296 = (((v + F2 (k + j) + f k * g j) / Big.B : Nat) : Int) := by unfold Big.B; omega
          have HFK : Hid (F2 (k + j) = F' (k + j)) := HF.out _ (Or.inr (by omega))
          have HST := (show Hid _ from st)
          clear st dm R2 hb2
          generalize (v + F2 (k + j) + f k * g j) % Big.B = r at *
          generalize (v + F2 (k + j) + f k * g j) / Big.B = q at *
          generalize f k * g j = P at *
          have i1 : (0 : Int) ≤ (k : Int) + (j : Int) := by omega
          have i2 : (k : Int) + (j : Int) < (n : Int) + (m : Int) := by omega
          have i3 : (k : Int) < (n : Int) := by omega
          have i4 : (j : Int) < (m : Int) := by omega
          have i5 : IntKind.i64.wrap ((k : Int) + (j : Int)) = (k : Int) + (j : Int) := by rw [IntWalk.i64_left, IntWalk.wrap64_in _ ⟨by omega, by omega⟩]
          have i6 : ((k : Int) + (j : Int)).toNat = k + j := by omega
          have u1 : IntKind.u64.wrap ((F2 (k + j) : Nat) : Int) = ((F2 (k + j) : Nat) : Int) := by rw [IntKind.wrap_u64]; omega
          have u2 : IntKind.u64.wrap ((v : Int) + ((F2 (k + j) : Nat) : Int)) = (v : Int) + ((F2 (k + j) : Nat) : Int) := by rw [IntKind.wrap_u64]; omega
          have u3 : IntKind.u64.wrap ((f k : Nat) : Int) = ((f k : Nat) : Int) := by rw [IntKind.wrap_u64]; omega
          have u4 : IntKind.u64.wrap ((g j : Nat) : Int) = ((g j : Nat) : Int) := by rw [IntKind.wrap_u64]; omega
          have u5 : IntKind.u64.wrap (P : Int) = (P : Int) := by rw [IntKind.wrap_u64]; omega
          have u6 : IntKind.u64.wrap ((v : Int) + ((F2 (k + j) : Nat) : Int) + (P : Int)) = (v : Int) + ((F2 (k + j) : Nat) : Int) + (P : Int) := by rw [IntKind.wrap_u64]; omega
          go_wp2
          go_region_held3 (fun w' => w'.cell? ⟨w.heap.size, k + j, none⟩ = some (.int .u32 ((F2 (k + j) : Nat) : Int)) ∧ w'.cell? ⟨ba, oa + k, none⟩ = some (.int .u32 ((f k : Nat) : Int)) ∧ w'.cell? ⟨bb, ob + j, none⟩ = some (.int .u32 ((g j : Nat) : Int))) (go_keep) (fail)
          go_wp2
          go_roundw
          case rel =>
            refine ⟨j + 1, q, Big.put F2 (k + j) r, rfl, by go_num, by omega, hq, HR2.out.drew.set (k + j) hr, HB2.out.drew.setCell (Nat.le_refl _) _, ?_, ?_⟩
            · intro t ht
              rw [Big.put_ne (by omega)]
              exact HF.out t (by omega)
            · have e : Big.V (fun t => Big.put F2 (k + j) r (k + t)) (j + 1) = Big.V (fun t => F2 (k + t)) j + r * Big.B ^ j := by
                rw [Big.V_succ, Big.V_congr (f := fun t => Big.put F2 (k + j) r (k + t)) (g := fun t => F2 (k + t)) (fun i hi => Big.put_ne (by omega)), Big.put_at]
              rw [e, Big.V_succ (fun t => F' (k + t)), Big.V_succ g, Nat.pow_succ]
              have s := HST.out
              rw [HFK.out] at s
              exact s
          case measure => simp [intOf]; omega
        · obtain rfl : j = m := by omega
          have cz := R2.row.cell (i := k + j) (by omega)
          have fz := R2.row.frozen (k + j)
          have e1 : IntKind.u32.wrap (v : Int) = (v : Int) := by rw [IntKind.wrap_u32]; omega
          have hvB : v < Big.B := hv4
          clear R2 hb2
          go_wp2
          go_roundw
          case rel =>
            refine ⟨k + 1, Big.put F2 (k + j) v, by go_num, by omega, HR2.out.set (k + j) hvB, HB2.out.setCell (Nat.le_refl _) _, ?_, ?_⟩
            · intro t ht
              rw [Big.put_ne (by omega), HF.out t (by omega)]
              exact HZ.out t (by omega)
            · have e1 : Big.V (Big.put F2 (k + j) v) (k + 1 + j) = Big.V F2 (k + j) + v * Big.B ^ (k + j) := by
                rw [show k + 1 + j = k + j + 1 by omega, Big.V_succ, Big.V_put_low (Nat.le_refl _), Big.put_at]
              have e2 := Big.V_split F2 k j
              have e3 := Big.V_split F' k j
              have e4 : Big.V F2 k = Big.V F' k := Big.V_congr fun i hi => HF.out i (by omega)
              rw [e4] at e2
              rw [e1, e2, Big.V_succ f k, Nat.pow_add]
              have e5 := mult_gen (p := Big.B ^ k) HVV.out (u := Big.V F' k) (a := Big.V f k) (by rw [← e3]; exact HV.out)
              rw [← e5]
              exact split_gen2
          case measure => simp [intOf]; omega
    · obtain rfl : k = n := by omega
      have T := Big.trim_any (R'.sl0 (by unfold maxLen; omega))
      have NV := (R'.sl0 (by unfold maxLen; omega)).trimmed
      rw [HV.out] at NV
      clear R'
      go_wp2_with fail
      refine T.mono ?_
      rintro e wa ⟨rfl, rfl⟩
      go_wp2
      go_ret
      exact ⟨_, rfl, NV, hbl⟩
theorem times_nat {w : World} {va vb : Value} {X Y : Nat} (ha : Big.NatV w va X) (hb : Big.NatV w vb Y) (hX : Fits 1000 X) (hY : Fits 1000 Y) :
    Calls Tryz.prog 69 #[va, vb] w fun e w' => ∃ v, e = .returned v ∧ Big.NatV w' v (X * Y) ∧ Below w.heap.size w w' := by
  obtain ⟨ao, n, c, b, o, f, rfl, S, t, rfl⟩ := ha
  obtain ⟨bo, m, cb, bb, ob, g, rfl, S', t', rfl⟩ := hb
  exact times_big S S' (big_len t hX) (big_len t' hY)
theorem by_stepB {T x d : Nat} (hd : 0 < d) : (T * Big.B + x) / d = T / d * Big.B + (T % d * Big.B + x) / d ∧ (T * Big.B + x) % d = (T % d * Big.B + x) % d := by
  have e : T * Big.B + x = d * (T / d * Big.B) + (T % d * Big.B + x) := by
    have q := Nat.div_add_mod T d
    have r : T * Big.B = d * (T / d * Big.B) + T % d * Big.B := by
      rw [← Nat.mul_assoc, ← Nat.add_mul, q]
    omega
  rw [e, Nat.mul_add_div hd, Nat.mul_add_mod]
  exact ⟨rfl, rfl⟩
theorem V_topB (f : Nat → Nat) (k n : Nat) (h : k < n) : Big.V (fun i => f (k + i)) (n - k) = Big.V (fun i => f (k + 1 + i)) (n - (k + 1)) * Big.B + f k := by
  obtain ⟨m, e⟩ : ∃ m, n - k = 1 + m := ⟨n - k - 1, by omega⟩
  have s := Big.V_split (fun i => f (k + i)) 1 m
  rw [e, s, show n - (k + 1) = m by omega, Nat.pow_one, Big.V_succ, Big.V_zero, Nat.pow_zero, Nat.mul_one, Nat.zero_add, Nat.add_zero, Nat.add_comm]
  congr 2
  exact Big.V_congr fun i _ => by show f (k + (1 + i)) = f (k + 1 + i); rw [Nat.add_assoc]
theorem pair_or2 {x y : Nat} (hx : x < Big.B) (hy : y < Big.B) : bits .or .u64 ((y : Int) * 4294967296) (x : Int) = ((y * Big.B + x : Nat) : Int) := by
  have p := pair_or hx hy
  have e : (y : Int) * 4294967296 = ((y * 4294967296 : Nat) : Int) := by rw [Int.natCast_mul]; rfl
  have hy' : y * 4294967296 < 18446744073709551616 := by unfold Big.B at hy; omega
  have hx' : x < 18446744073709551616 := by unfold Big.B at hx; omega
  rw [e] at p ⊢
  rw [bits_or_u64_nat _ _ hx' hy'] at p
  rw [bits_or_u64_nat _ _ hy' hx', Nat.or_comm, p, Nat.add_comm]
theorem by_fits {T x d : Nat} (hT : T < d) (hx : x < Big.B) : (T * Big.B + x) / d < Big.B := by
  rw [Nat.div_lt_iff_lt_mul (by omega), Nat.mul_comm Big.B d]
  have := Nat.mul_le_mul_right Big.B (Nat.succ_le_of_lt hT)
  rw [Nat.succ_mul] at this
  omega
set_option maxRecDepth 100000 in
set_option maxHeartbeats 2000000 in
theorem byword_big {w : World} {ao : Option Addr} {n c b o : Nat} {f : Nat → Nat} (S : Big.Sl w ao n c b o f) (hn : n ≤ 1000) (d : Nat) (hd : 0 < d) (hdB : d < Big.B) :
    Calls Tryz.prog 117 #[.slice ao n c, .int .u64 (d : Int)] w fun e w' => ∃ v, e = .returned (.tuple #[v, .int .u64 ((Big.V f n % d : Nat) : Int)]) ∧ Big.NewV w' w.heap.size v (Big.V f n / d) ∧ Below w.heap.size w w' := by
  have hmk := run_make_row' (P := Tryz.prog) 69 112 (.int .u32 0) 4 Big.und_big Big.info_u32 rfl .i64 .i64 n (by omega) (by omega)
  have HS : Hid (Big.Sl w ao n c b o f) := S
  have HD : Hid (0 < d ∧ d < Big.B) := ⟨hd, hdB⟩
  have d0 : ((d : Int) == 0) = false := beq_eq_false_iff_ne.mpr (by omega)
  have hd4 : d < 4294967296 := hdB
  obtain ⟨R, hR⟩ : ∃ R, R = Big.V f n % d := ⟨_, rfl⟩
  have HR : Hid (R = Big.V f n % d) := hR
  rw [← hR]
  clear S hdB hR
  go_enter Tryz.func117, Tryz.ntmps117
  go_wp2
  go_loopw [7, 8] (fun r i wr => ∃ (k l : Nat) (F : Nat → Nat), r = .int .u64 (l : Int) ∧ i = .int .i64 ((k : Int) - 1) ∧ k ≤ n ∧ l < d ∧ Big.Row wr w.heap.size n F ∧ Below w.heap.size w wr ∧ Hid (Big.V (fun i => F (k + i)) (n - k) = Big.V (fun i => f (k + i)) (n - k) / d ∧ l = Big.V (fun i => f (k + i)) (n - k) % d)) (fun _ i _ => (intOf i + 1).toNat)
  case atStart => exact ⟨n, 0, fun _ => 0, rfl, rfl, Nat.le_refl _, hd, Big.made_row _ _, (Below.refl _ _).alloc (Nat.le_refl _) _, ⟨by rw [Nat.sub_self, Big.V_zero, Big.V_zero, Nat.zero_div], by rw [Nat.sub_self, Big.V_zero, Nat.zero_mod]⟩⟩
  case round =>
    obtain ⟨k, l, F, rfl, rfl, hk, hl, RF, hbl, HV⟩ := hrel
    by_cases c1 : 0 < k
    · obtain ⟨j, rfl⟩ : ∃ j, k = j + 1 := ⟨k - 1, by omega⟩
      have hj : j < n := by omega
      obtain rfl := HS.out.addr (by omega)
      have hc := (HS.out.below hbl).cell j hj
      have cz := RF.row.cell (i := j) hj
      have fz := RF.row.frozen j
      have hx := HS.out.ws j
      have hor := pair_or2 hx (Nat.lt_trans hl HD.out.2)
      have hfit := by_fits hl hx
      obtain ⟨s1, s2⟩ := by_stepB (T := Big.V (fun i => f (j + 1 + i)) (n - (j + 1))) (x := f j) HD.out.1
      rw [← HV.out.2, ← V_topB f j n hj] at s1 s2
      have hq : ((l * Big.B + f j : Nat) : Int) / (d : Int) = (((l * Big.B + f j) / d : Nat) : Int) := by rw [Int.natCast_ediv]
      have hm : ((l * Big.B + f j : Nat) : Int) % (d : Int) = (((l * Big.B + f j) % d : Nat) : Int) := by rw [Int.natCast_emod]
      have e1 := wrap_lo32 hfit
      have hml : (l * Big.B + f j) % d < d := Nat.mod_lt _ HD.out.1
      have htot : l * Big.B + f j < 18446744073709551616 := by
        have := pair_lt hx (Nat.lt_trans hl HD.out.2)
        unfold B at this
        omega
      have HST : Hid (Big.V (fun i => f (j + i)) (n - j) / d = Big.V (fun i => f (j + 1 + i)) (n - (j + 1)) / d * Big.B + (l * Big.B + f j) / d ∧ Big.V (fun i => f (j + i)) (n - j) % d = (l * Big.B + f j) % d) := ⟨s1, s2⟩
      have HRF : Hid (Big.Row wr w.heap.size n F ∧ Below w.heap.size w wr) := ⟨RF, hbl⟩
      have HFT : Hid ((l * Big.B + f j) / d < Big.B) := hfit
      have ij : ((j + 1 : Nat) : Int) - 1 = (j : Int) := by omega
      simp only [Int.natCast_add, Int.natCast_one] at ij
      clear s1 s2 RF hbl hfit
      unfold Big.B at hx
      generalize (l * Big.B + f j) / d = q at *
      generalize (l * Big.B + f j) % d = m at *
      generalize l * Big.B + f j = y at *
      have hq4 : q < 4294967296 := HFT.out
      have e2 : (q : Int) % 4294967296 = (q : Int) := by omega
      have e3 : IntKind.u64.wrap (q : Int) = (q : Int) := by rw [IntKind.wrap_u64]; omega
      go_wp2
      go_roundw
      case rel =>
        refine ⟨j, m, Big.put F j q, by rw [hm], by go_num, by omega, hml, HRF.out.1.set j HFT.out, HRF.out.2.setCell (Nat.le_refl _) _, ?_, HST.out.2.symm⟩
        rw [V_topB (Big.put F j q) j n hj, Big.put_at, HST.out.1, ← HV.out.1]
        congr 2
        exact Big.V_congr fun i _ => Big.put_ne (by omega)
      case measure => first | (simp [intOf]; done) | (simp [intOf]; omega)
    · obtain rfl : k = 0 := by omega
      have T := Big.trim_any (RF.sl0 (by unfold maxLen; omega))
      have NV := (RF.sl0 (by unfold maxLen; omega)).trimmedN (base := w.heap.size) (fun _ => Nat.le_refl _)
      have e0 : (fun i => F (0 + i)) = F := funext fun i => by rw [Nat.zero_add]
      have e1 : (fun i => f (0 + i)) = f := funext fun i => by rw [Nat.zero_add]
      have hv := HV.out
      rw [e0, e1, Nat.sub_zero] at hv
      rw [hv.1] at NV
      have hl' : l = R := by rw [HR.out]; exact hv.2
      subst hl'
      clear RF hv e0 e1
      go_wp2_with fail
      refine T.mono ?_
      rintro e wa ⟨rfl, rfl⟩
      go_wp2
      refine bodyPost_ret (v := .tuple #[_, .int .u64 (l : Int)]) (by simp [results, Tryz.results117, go_sem]) rfl ⟨_, rfl, NV, hbl⟩
theorem own_below {w w' : World} {base : Nat} {e : TypeId} {v : Value} {n : Nat} {xs : List Value} (h : w.ownsRow base e 1 v n xs) (hb : Below w.heap.size w w') : w'.ownsRow base e 1 v n xs := by
  refine ⟨h.1, ?_⟩
  rcases h.2 with q | ⟨g, cap, cur, e1, e2, e3, r⟩
  · exact Or.inl q
  · exact Or.inr ⟨g, cap, cur, e1, e2, (hb.block g (Array.getElem?_eq_some_iff.1 e3).1).trans e3, r⟩
/-- A number apart from a row that is appended to. -/
def QV (w : World) (tv v : Value) (Y : Nat) : Prop := ∃ ao n c b o f, v = .slice ao n c ∧ Big.Sl w ao n c b o f ∧ Big.Top f n ∧ Big.V f n = Y ∧ (0 < n → tv.ownBlock ≠ some b)
theorem Big.NewV.qv {w w0 : World} {base' : Nat} {e : TypeId} {tv v : Value} {n : Nat} {xs : List Value} {Y : Nat} (h : Big.NewV w w0.heap.size v Y) (ho : w0.ownsRow base' e 1 tv n xs) : QV w tv v Y := by
  obtain ⟨ao, n, c, b, o, f, e, S, t, r, a⟩ := h
  exact ⟨ao, n, c, b, o, f, e, S, t, r, fun q z => by have := a q; have := (ho.lt b z).2; omega⟩
/-- One more behind the row: the number stays. -/
theorem QV.next {w w3 : World} {tv v : Value} {Y : Nat} {ob : Obj} {gg n cap : Nat} (h : QV w tv v Y) (hg : (w.alloc ob).grownBy w3 tv.ownBlock) (hat : tv.ownBlock = some gg ∨ gg = w.heap.size + 1) : QV w3 (.slice (some ⟨gg, 0, none⟩) n cap) v Y := by
  obtain ⟨ao, n, c, b, o, f, e, S, t, r, a⟩ := h
  have S1 := S.below ((Below.refl _ _).alloc (Nat.le_refl _) ob)
  refine ⟨ao, n, c, b, o, f, e, ⟨S.le, S.cap, S.addr, fun q => Nat.lt_of_lt_of_le (S1.blk q) hg.size, fun i hi => ?_, S.ws⟩, t, r, fun q z => ?_⟩
  · rw [World.cell?_of_block (hg.block b (S1.blk (by omega)) (fun z => a (by omega) z.symm))]
    exact S1.cell i hi
  · have z' : gg = b := by simpa [Value.ownBlock] using z
    subst z'
    rcases hat with y | y
    · exact a q y
    · have := S.blk q; omega
theorem tell_digit {b X Y P k n t : Nat} (hP : P = b ^ k) (hY : Y = X / b ^ n) (ht : t < k) : Y % P / b ^ t % b = X / b ^ (n + t) % b := by
  rw [hP, hY, show b ^ k = b ^ t * b ^ (k - t) by rw [← Nat.pow_add, show t + (k - t) = k by omega], Nat.mod_mul_right_div_self, Nat.div_div_eq_div_mul, ← Nat.pow_add]
  refine Nat.mod_mod_of_dvd _ ?_
  rw [show k - t = k - t - 1 + 1 by omega, Nat.pow_succ]
  exact Nat.dvd_mul_left _ _
theorem tell_more {b X Y P k n : Nat} (hP : P = b ^ k) (hY : Y = X / b ^ n) : Y / P = X / b ^ (n + k) := by
  rw [hP, hY, Nat.div_div_eq_div_mul, ← Nat.pow_add]
theorem tell_last {b X Y P k n t : Nat} (hb : 2 ≤ b) (hP : P = b ^ k) (hY : Y = X / b ^ n) (h0 : Y ≠ 0) (hz : Y / P = 0) (he : Y % P / b ^ t = 0) (ht : t = 0 ∨ Y / P ≠ 0 ∨ Y % P / b ^ (t - 1) ≠ 0) : 1 ≤ n + t ∧ b ^ (n + t - 1) ≤ X ∧ X < b ^ (n + t) := by
  have hlt : Y < P := by
    rcases Nat.lt_or_ge Y P with q | q
    · exact q
    · have hP0 : 0 < P := by rw [hP]; exact Nat.pow_pos (by omega)
      have := Nat.div_le_div_right (c := P) q
      rw [Nat.div_self hP0] at this
      omega
  rw [Nat.mod_eq_of_lt hlt] at he ht
  have t1 : 1 ≤ t := by
    rcases Nat.eq_zero_or_pos t with q | q
    · rw [q, Nat.pow_zero, Nat.div_one] at he; exact absurd he h0
    · exact q
  have hne : Y / b ^ (t - 1) ≠ 0 := by
    rcases ht with q | q | q
    · omega
    · exact absurd hz q
    · exact q
  have p1 : 0 < b ^ (n + t) := Nat.pow_pos (by omega)
  have p2 : 0 < b ^ (n + (t - 1)) := Nat.pow_pos (by omega)
  rw [hY, Nat.div_div_eq_div_mul, ← Nat.pow_add] at he hne
  refine ⟨by omega, ?_, (Nat.div_eq_zero_iff_lt p1).mp he⟩
  rw [show n + t - 1 = n + (t - 1) by omega]
  rcases Nat.lt_or_ge X (b ^ (n + (t - 1))) with q | q
  · exact absurd (Nat.div_eq_of_lt q) hne
  · exact q
theorem few2 {X n b : Nat} (hb : 2 ≤ b) (hX : X < B ^ 128) (h : X / b ^ n ≠ 0) : n ≤ 8192 := by
  have := few (r := n) (k := 1) hb hX (by rw [Nat.mul_one]; exact h) rfl
  omega
set_option maxRecDepth 100000 in
set_option maxHeartbeats 4000000 in
theorem tell_any {w : World} {va : Value} {X : Nat} (ha : Big.NatV w va X) (hX0 : X ≠ 0) (hXB : X < B ^ 128) (b : Nat) (h1 : 2 ≤ b) (h2 : b ≤ 36) :
    Calls Tryz.prog 87 #[va, .int .i64 (b : Int)] w fun e w' => ∃ K, e = .returned (.string (rowText b X K)) ∧ 1 ≤ K ∧ b ^ (K - 1) ≤ X ∧ X < b ^ K ∧ Below w.heap.size w w' := by
  obtain ⟨i0, hi, hz0, hz1, hz2⟩ := info_parts info_u8
  have HX : Hid (X ≠ 0 ∧ X < B ^ 128) := ⟨hX0, hXB⟩
  have HA : Hid (Big.NatV w va X) := ha
  obtain ⟨a0, l0, c0, k0, o0, f0, rfl, S0, t0, hv0⟩ := ha
  have hl0 : ((l0 : Int) == 0) = false := beq_eq_false_iff_ne.mpr (by
    intro e
    have e' : l0 = 0 := by omega
    subst e'
    exact hX0 hv0.symm)
  have u1 : IntKind.u64.wrap (b : Int) = (b : Int) := by rw [IntKind.wrap_u64]; omega
  clear hX0 hXB S0 t0 hv0
  go_enter Tryz.func87, Tryz.ntmps87
  go_wp2
  go_loop [5, 6] (fun c p => ∃ k P : Nat, c = .int .i64 (k : Int) ∧ p = .int .u64 (P : Int) ∧ Hid (P = b ^ k) ∧ 1 ≤ k ∧ k ≤ 32 ∧ P < 4294967296) (fun c _ => 32 - (intOf c).toNat)
  case atStart => exact ⟨1, b, rfl, rfl, by show b = b ^ 1; rw [Nat.pow_one], by omega, by omega, by omega⟩
  case round =>
    obtain ⟨k, P, rfl, rfl, HP, hk1, hk2, hP4⟩ := hrel
    have pm : (P : Int) * (b : Int) = ((P * b : Nat) : Int) := by rw [Int.natCast_mul]
    have pl : P * b ≤ 4294967296 * 36 := Nat.mul_le_mul (by omega) h2
    have HQ : Hid (P * b = b ^ (k + 1)) := by
      show _ = _
      rw [Nat.pow_succ, HP.out]
    by_cases c0 : P * b < 4294967296
    · have hk3 : k < 32 := by
        rcases Nat.lt_or_ge k 32 with q | q
        · exact q
        · exfalso
          have a : 2 ^ 32 ≤ 2 ^ (k + 1) := Nat.pow_le_pow_right (by omega) (by omega)
          have c : 2 ^ (k + 1) ≤ b ^ (k + 1) := Nat.pow_le_pow_left h1 _
          have := HQ.out
          omega
      generalize P * b = Q at *
      have c0' : (Q : Int) < 4294967296 := by omega
      go_wp2
      go_round
      case rel => exact ⟨k + 1, Q, by go_num, rfl, HQ.out, by omega, by omega, c0⟩
      case measure => simp [intOf]; omega
    · have hP2 : 2 ≤ P := by
        rw [HP.out]
        have q : b ^ 1 ≤ b ^ k := Nat.pow_le_pow_right (by omega) hk1
        rw [Nat.pow_one] at q
        omega
      have c0' : ¬ ((P * b : Nat) : Int) < 4294967296 := by omega
      have hq2 : P * b < 18446744073709551616 := by omega
      generalize P * b = Q at *
      clear c0 HQ pl
      go_wp2
      clear pm
      go_loopg [0, 7] X (fun gk a tv wr => ∃ (n : Nat), QV wr tv a gk ∧ wr.ownsRow w.heap.size 5 1 tv n (chV (lows b X n)) ∧ Below w.heap.size w wr ∧ n ≤ 9000 ∧ Hid ((gk ≠ 0 ∧ gk = X / b ^ n) ∨ (gk = 0 ∧ 1 ≤ n ∧ b ^ (n - 1) ≤ X ∧ X < b ^ n)))
      case atStart =>
        obtain ⟨ao, n, c, bb, o, f, e, S, t, r⟩ := HA.out
        exact ⟨0, ⟨ao, n, c, bb, o, f, e, S, t, r, fun _ z => by cases z⟩, World.ownsRow_nil _ _ _ _, Below.refl _ _, by omega, Or.inl ⟨HX.out.1, by rw [Nat.pow_zero, Nat.div_one]⟩⟩
      case round =>
        obtain ⟨n, hqv, hown, hbl, hn9, HG⟩ := hrel
        have hqv2 := hqv
        obtain ⟨al, ll, cl, bl', ol, fl, rfl, Sl0, tl0, hvl, _⟩ := hqv2
        have hsz := hbl.size
        by_cases c1 : 0 < ll
        · have c1' : (0 : Int) < (ll : Int) := by omega
          have hg0 : gk ≠ 0 := by
            have q := Big.Top_ge tl0 c1
            have := Big.Bp_pos (ll - 1)
            omega
          have hgx : gk = X / b ^ n := by
            rcases HG.out with q | q
            · exact q.2
            · exact absurd q.1 hg0
          have hn8 : n ≤ 8192 := few2 h1 HX.out.2 (by rw [← hgx]; exact hg0)
          have hlen : ll ≤ 1000 := by
            have fx : Fits 256 gk := (Fits.word (n := 128) HX.out.2).le (by rw [hgx]; exact Nat.div_le_self _ _)
            exact Nat.le_trans (big_len tl0 (by rw [hvl]; exact fx)) (by omega)
          have BW := byword_big Sl0 hlen P (by omega) hP4
          rw [hvl] at BW
          have HGK : Hid (gk ≠ 0 ∧ gk = X / b ^ n ∧ gk % P < P) := ⟨hg0, hgx, Nat.mod_lt _ (by omega)⟩
          have HO : Hid (wr.ownsRow w.heap.size 5 1 u7 n (chV (lows b X n)) ∧ Below w.heap.size w wr) := ⟨hown, hbl⟩
          obtain ⟨rm, hrm⟩ : ∃ rm, gk % P = rm := ⟨_, rfl⟩
          have HRM : Hid (gk % P = rm) := hrm
          have hrm4 : rm < 4294967296 := by have := HGK.out.2.2; omega
          rw [hrm] at BW
          clear hg0 hgx hvl tl0 Sl0 hqv HG hown hbl hrm
          go_wp2_with fail
          refine BW.mono ?_
          rintro e w2 ⟨vq, rfl, nq, b2⟩
          have own2 := own_below HO.out.1 b2
          have qv2 := nq.qv HO.out.1
          have B2 : Below w.heap.size w w2 := HO.out.2.trans (b2.mono HO.out.2.size)
          obtain ⟨aq, lq, cq, bq, oq, fq, rfl, Sq, tq, hvq, apq⟩ := qv2
          have HLQ : Hid ((0 < lq ∧ gk / P ≠ 0) ∨ (lq = 0 ∧ gk / P = 0)) := by
            rcases Nat.eq_zero_or_pos lq with z | z
            · exact Or.inr ⟨z, by rw [← hvq, z]; rfl⟩
            · refine Or.inl ⟨z, ?_⟩
              have q := Big.Top_ge tq z
              have := Big.Bp_pos (lq - 1)
              omega
          have HQ2 : Hid (QV w2 u7 (.slice aq lq cq) (gk / P) ∧ w2.ownsRow w.heap.size 5 1 u7 n (chV (lows b X n)) ∧ Below w.heap.size w w2) := ⟨⟨aq, lq, cq, bq, oq, fq, rfl, Sq, tq, hvq, apq⟩, own2, B2⟩
          clear BW nq b2 own2 B2 Sq tq hvq apq HO
          go_wp2
          go_loopw [7, 9, 10] (fun tv r i w' => ∃ (t z : Nat), r = .int .u64 (z : Int) ∧ i = .int .i64 (t : Int) ∧ t ≤ k ∧ z < 4294967296 ∧ QV w' tv (.slice aq lq cq) (gk / P) ∧ w'.ownsRow w.heap.size 5 1 tv (n + t) (chV (lows b X (n + t))) ∧ Below w.heap.size w w' ∧ Hid (z = gk % P / b ^ t ∧ (t = 0 ∨ gk / P ≠ 0 ∨ gk % P / b ^ (t - 1) ≠ 0))) (fun _ _ i _ => k - (intOf i).toNat)
          case atStart => exact ⟨0, rm, rfl, rfl, Nat.zero_le _, hrm4, HQ2.out.1, HQ2.out.2.1, HQ2.out.2.2, ⟨by rw [Nat.pow_zero, Nat.div_one]; exact HRM.out.symm, Or.inl rfl⟩⟩
          case round =>
            clear HQ2
            obtain ⟨t, z, rfl, rfl, ht, hz4, hqv, hown, hbl, HZ⟩ := hrel
            have hsz := hbl.size
            by_cases c2 : t < k
            · have c2' : (t : Int) < (k : Int) := by omega
              rcases HLQ.out with ⟨q1, q2⟩ | ⟨q1, q2⟩
              · have q1' : (0 : Int) < (lq : Int) := by omega
                have hr36 : z % b < 36 := Nat.lt_of_lt_of_le (Nat.mod_lt _ (by omega)) h2
                have m1 : (z : Int) % (b : Int) = ((z % b : Nat) : Int) := by rw [Int.natCast_emod]
                have m2 : (z : Int) / (b : Int) = ((z / b : Nat) : Int) := by rw [Int.natCast_ediv]
                have hdz : z / b ≤ z := Nat.div_le_self _ _
                have HS : Hid (z / b = gk % P / b ^ (t + 1) ∧ z % b = X / b ^ (n + t) % b ∧ gk % P / b ^ t = z) := ⟨by rw [HZ.out.1, Nat.div_div_eq_div_mul, Nat.pow_succ], by rw [HZ.out.1]; exact tell_digit HP.out HGK.out.2.1 c2, HZ.out.1.symm⟩
                have hc := ch_at hr36
                generalize z % b = r at *
                generalize z / b = zq at *
                obtain ⟨cr, hcr⟩ : ∃ c, ch r = c := ⟨_, rfl⟩
                rw [hcr] at hc
                have HC : Hid (ch r = cr) := hcr
                have hq0 : (0 : Int) ≤ (zq : Int) := by omega
                have e3 : IntKind.u64.wrap (zq : Int) = (zq : Int) := by rw [IntKind.wrap_u64]; omega
                have HQO : Hid (QV wr u7 (.slice aq lq cq) (gk / P) ∧ wr.ownsRow w.heap.size 5 1 u7 (n + t) (chV (lows b X (n + t))) ∧ Below w.heap.size w wr) := ⟨hqv, hown, hbl⟩
                clear hcr hqv
                go_wp2_with (first
                  | (at_builtin; refine wpList_append_lies _ rfl _ _ 160 rfl w.heap.size 5 i0 (.int .u8 0) 1 1 und_text hi hz0 hz1 hz2 rfl (by decide) _ _ _ rfl (hown.alloc _) ⟨wr.heap.size, 0, none⟩ 1 1 [.int .u8 (cr : Int)] rfl rfl (World.news_of_block (cs := #[.int .u8 (cr : Int)]) (t := 5) (fr := (0, 0)) (heap_alloc_new wr _)) (by simp [Value.oneCell']) (by omega) (by unfold maxLen; omega) (by omega) (by rw [World.size_alloc]; omega) (wr.heap.size + 1) (by simp) ?_)
                  | go_in)
                intro gg cap w3 hown' hgrow hat hlt
                have hb3 : Below w.heap.size w w3 := (hbl.alloc (by omega) _).grown hgrow (by rw [World.size_alloc]; omega) (fun q hq => (hown.lt q hq).1)
                have HO3 : Hid (QV w3 (.slice (some ⟨gg, 0, none⟩) (n + t + 1) cap) (.slice aq lq cq) (gk / P) ∧ w3.ownsRow w.heap.size 5 1 (.slice (some ⟨gg, 0, none⟩) (n + t + 1) cap) (n + (t + 1)) (chV (lows b X (n + (t + 1)))) ∧ Below w.heap.size w w3) := by
                  refine ⟨HQO.out.1.next hgrow hat, ?_, hb3⟩
                  rw [← Nat.add_assoc, lows_succ, chV_append, ← HS.out.2.1]
                  have e : chV [r] = [.int .u8 (cr : Int)] := by unfold chV; rw [List.map_cons, HC.out]; rfl
                  rw [e]
                  exact hown'
                clear hown' hb3 hgrow hat hlt hown hbl
                go_wp2
                go_roundw
                case rel => exact ⟨t + 1, zq, by first | rfl | (congr 1; rw [IntKind.wrap_u64]; omega), by go_num, by omega, by omega, HO3.out.1, HO3.out.2.1, HO3.out.2.2, ⟨HS.out.1, Or.inr (Or.inl q2)⟩⟩
                case measure => simp [intOf]; omega

              · subst q1
                by_cases c3 : 0 < z
                · have c3' : (0 : Int) < (z : Int) := by omega
                  have hr36 : z % b < 36 := Nat.lt_of_lt_of_le (Nat.mod_lt _ (by omega)) h2
                  have m1 : (z : Int) % (b : Int) = ((z % b : Nat) : Int) := by rw [Int.natCast_emod]
                  have m2 : (z : Int) / (b : Int) = ((z / b : Nat) : Int) := by rw [Int.natCast_ediv]
                  have hdz : z / b ≤ z := Nat.div_le_self _ _
                  have HS : Hid (z / b = gk % P / b ^ (t + 1) ∧ z % b = X / b ^ (n + t) % b ∧ gk % P / b ^ t = z) := ⟨by rw [HZ.out.1, Nat.div_div_eq_div_mul, Nat.pow_succ], by rw [HZ.out.1]; exact tell_digit HP.out HGK.out.2.1 c2, HZ.out.1.symm⟩
                  have hc := ch_at hr36
                  generalize z % b = r at *
                  generalize z / b = zq at *
                  obtain ⟨cr, hcr⟩ : ∃ c, ch r = c := ⟨_, rfl⟩
                  rw [hcr] at hc
                  have HC : Hid (ch r = cr) := hcr
                  have hq0 : (0 : Int) ≤ (zq : Int) := by omega
                  have e3 : IntKind.u64.wrap (zq : Int) = (zq : Int) := by rw [IntKind.wrap_u64]; omega
                  have HQO : Hid (QV wr u7 (.slice aq 0 cq) (gk / P) ∧ wr.ownsRow w.heap.size 5 1 u7 (n + t) (chV (lows b X (n + t))) ∧ Below w.heap.size w wr) := ⟨hqv, hown, hbl⟩
                  clear hcr hqv
                  go_wp2_with (first
                    | (at_builtin; refine wpList_append_lies _ rfl _ _ 160 rfl w.heap.size 5 i0 (.int .u8 0) 1 1 und_text hi hz0 hz1 hz2 rfl (by decide) _ _ _ rfl (hown.alloc _) ⟨wr.heap.size, 0, none⟩ 1 1 [.int .u8 (cr : Int)] rfl rfl (World.news_of_block (cs := #[.int .u8 (cr : Int)]) (t := 5) (fr := (0, 0)) (heap_alloc_new wr _)) (by simp [Value.oneCell']) (by omega) (by unfold maxLen; omega) (by omega) (by rw [World.size_alloc]; omega) (wr.heap.size + 1) (by simp) ?_)
                    | go_in)
                  intro gg cap w3 hown' hgrow hat hlt
                  have hb3 : Below w.heap.size w w3 := (hbl.alloc (by omega) _).grown hgrow (by rw [World.size_alloc]; omega) (fun q hq => (hown.lt q hq).1)
                  have HO3 : Hid (QV w3 (.slice (some ⟨gg, 0, none⟩) (n + t + 1) cap) (.slice aq 0 cq) (gk / P) ∧ w3.ownsRow w.heap.size 5 1 (.slice (some ⟨gg, 0, none⟩) (n + t + 1) cap) (n + (t + 1)) (chV (lows b X (n + (t + 1)))) ∧ Below w.heap.size w w3) := by
                    refine ⟨HQO.out.1.next hgrow hat, ?_, hb3⟩
                    rw [← Nat.add_assoc, lows_succ, chV_append, ← HS.out.2.1]
                    have e : chV [r] = [.int .u8 (cr : Int)] := by unfold chV; rw [List.map_cons, HC.out]; rfl
                    rw [e]
                    exact hown'
                  clear hown' hb3 hgrow hat hlt hown hbl
                  go_wp2
                  go_roundw
                  case rel => exact ⟨t + 1, zq, by first | rfl | (congr 1; rw [IntKind.wrap_u64]; omega), by go_num, by omega, by omega, HO3.out.1, HO3.out.2.1, HO3.out.2.2, ⟨HS.out.1, Or.inr (Or.inr (by rw [Nat.add_sub_cancel, HS.out.2.2]; omega))⟩⟩
                  case measure => simp [intOf]; omega

                · obtain rfl : z = 0 := by omega
                  have HN : Hid ((gk / P ≠ 0 ∧ gk / P = X / b ^ (n + t)) ∨ (gk / P = 0 ∧ 1 ≤ n + t ∧ b ^ (n + t - 1) ≤ X ∧ X < b ^ (n + t))) := Or.inr ⟨q2, tell_last h1 HP.out HGK.out.2.1 HGK.out.1 q2 HZ.out.1.symm HZ.out.2⟩
                  have hlt : gk / P < gk := Nat.div_lt_self (Nat.pos_of_ne_zero HGK.out.1) hP2
                  have HQO : Hid (QV wr u7 (.slice aq 0 cq) (gk / P) ∧ wr.ownsRow w.heap.size 5 1 u7 (n + t) (chV (lows b X (n + t))) ∧ Below w.heap.size w wr ∧ gk / P < gk) := ⟨hqv, hown, hbl, hlt⟩
                  clear hqv hown hbl hlt
                  go_wp2
                  go_roundg (gk / P)
                  case measure => exact HQO.out.2.2.2
                  case rel => exact ⟨n + t, HQO.out.1, HQO.out.2.1, HQO.out.2.2.1, by omega, HN.out⟩

            · have c2' : ¬ (t : Int) < (k : Int) := by omega
              obtain rfl : t = k := by omega
              have HN : Hid ((gk / P ≠ 0 ∧ gk / P = X / b ^ (n + t)) ∨ (gk / P = 0 ∧ 1 ≤ n + t ∧ b ^ (n + t - 1) ≤ X ∧ X < b ^ (n + t))) := by
                show _ ∨ _
                by_cases y : gk / P = 0
                · exact Or.inr ⟨y, tell_last h1 HP.out HGK.out.2.1 HGK.out.1 y (by rw [← HP.out]; exact Nat.div_eq_of_lt HGK.out.2.2) HZ.out.2⟩
                · exact Or.inl ⟨y, tell_more HP.out HGK.out.2.1⟩
              have hlt : gk / P < gk := Nat.div_lt_self (Nat.pos_of_ne_zero HGK.out.1) hP2
              have HQO : Hid (QV wr u7 (.slice aq lq cq) (gk / P) ∧ wr.ownsRow w.heap.size 5 1 u7 (n + t) (chV (lows b X (n + t))) ∧ Below w.heap.size w wr ∧ gk / P < gk) := ⟨hqv, hown, hbl, hlt⟩
              clear hqv hown hbl hlt
              go_wp2
              go_roundg (gk / P)
              case measure => exact HQO.out.2.2.2
              case rel => exact ⟨n + t, HQO.out.1, HQO.out.2.1, HQO.out.2.2.1, by omega, HN.out⟩

        · obtain rfl : ll = 0 := by omega
          have hgk : gk = 0 := hvl.symm
          subst hgk
          have hK : 1 ≤ n ∧ b ^ (n - 1) ≤ X ∧ X < b ^ n := by
            rcases HG.out with q | q
            · exact absurd rfl q.1
            · exact q.2
          have HK : Hid (1 ≤ n ∧ b ^ (n - 1) ≤ X ∧ X < b ^ n ∧ Below w.heap.size w wr) := ⟨hK.1, hK.2.1, hK.2.2, hbl⟩
          have hn1 := hK.1
          rcases hown.2 with ⟨_, q⟩ | ⟨gt, cap, cur, hv, hbg, hheap, hle, hmx, hcs, htk⟩
          · omega
          rw [Nat.mul_one] at hcs htk
          have hgl : gt < wr.heap.size := (Array.getElem?_eq_some_iff.1 hheap).1
          have hcell : ∀ i, i < n → wr.cell? ⟨gt, i, none⟩ = some (.int .u8 ((ch (X / b ^ i % b) : Nat) : Int)) := by
            intro i hi
            have q : (cur.toList.take n)[i]? = (chV (lows b X n))[i]? := by rw [htk]
            rw [List.getElem?_take_of_lt hi] at q
            have q2 : (chV (lows b X n))[i]? = some (.int .u8 ((ch (X / b ^ i % b) : Nat) : Int)) := by
              unfold chV lows
              rw [List.getElem?_map, List.getElem?_map, List.getElem?_range hi]
              rfl
            rw [q2] at q
            have q3 : cur[i]? = some (.int .u8 ((ch (X / b ^ i % b) : Nat) : Int)) := by simpa using q
            simp [World.cell?, hheap, q3]
          have HC : Hid (∀ i, i < n → wr.cell? ⟨gt, i, none⟩ = some (.int .u8 ((ch (X / b ^ i % b) : Nat) : Int))) := hcell
          clear hK hqv Sl0 tl0 hvl hown hheap htk hcs hcell HG hbl
          subst hv
          go_wp2
          obtain ⟨w5, hw5⟩ : ∃ w5, w5 = wr := ⟨_, rfl⟩
          rw [← hw5]
          have HW5 : Hid (w5 = wr) := hw5
          go_loopw [11, 12] (fun v i w' => ∃ m : Nat, i = .int .i64 ((m : Int) - 1) ∧ m ≤ n ∧ w'.ownsRow w5.heap.size 5 1 v (n - m) (dV .u8 (fun j => ch (X / b ^ (n - 1 - j) % b)) (n - m)) ∧ Below w5.heap.size w5 w') (fun _ i _ => (intOf i + 1).toNat)
          case atStart => exact ⟨n, rfl, Nat.le_refl _, by rw [Nat.sub_self]; exact World.ownsRow_nil _ _ _ _, Below.refl _ _⟩
          case round =>
            obtain ⟨m, rfl, hm, hown, hbl⟩ := hrel
            subst hw5
            have hsz := hbl.size
            by_cases c3 : 0 < m
            · obtain ⟨j, rfl⟩ : ∃ j, m = j + 1 := ⟨m - 1, by omega⟩
              have ij : ((j + 1 : Nat) : Int) - 1 = (j : Int) := by omega
              simp only [Int.natCast_add, Int.natCast_one] at ij
              have cz := (hbl.cell (p := ⟨gt, j, none⟩) hgl).trans (HC.out j (by omega))
              have HE : Hid (n - j = n - (j + 1) + 1 ∧ n - 1 - (n - (j + 1)) = j) := ⟨by omega, by omega⟩
              have hcl := ch_lt (Nat.lt_of_lt_of_le (Nat.mod_lt (X / b ^ j) (show 0 < b by omega)) h2)
              obtain ⟨cr, hcr⟩ : ∃ cr, ch (X / b ^ j % b) = cr := ⟨_, rfl⟩
              have HCR : Hid (ch (X / b ^ j % b) = cr) := hcr
              rw [hcr] at cz hcl
              clear hcr
              obtain ⟨q, hq⟩ : ∃ q, n - (j + 1) = q := ⟨_, rfl⟩
              rw [hq] at hown
              have hq9 : q ≤ 9000 := by omega
              have HQQ : Hid (n - (j + 1) = q) := hq
              clear hq
              go_wp2_with (first
                | (at_builtin; refine wpList_append_own _ rfl _ _ 160 rfl w5.heap.size 5 i0 (.int .u8 0) 1 1 und_text hi hz0 hz1 hz2 rfl (by decide) _ _ _ rfl (hown.alloc _) ⟨wr.heap.size, 0, none⟩ 1 1 [.int .u8 (cr : Int)] rfl rfl (World.news_of_block (cs := #[.int .u8 (cr : Int)]) (t := 5) (fr := (0, 0)) (heap_alloc_new wr _)) (by simp [Value.oneCell']) (by unfold maxLen; omega) (by omega) (by rw [World.size_alloc]; omega) ?_)
                | go_in)
              intro v' w3 hown' hgrow hnil
              have hb3 : Below w5.heap.size w5 w3 := (hbl.alloc (by omega) _).grown hgrow (by rw [World.size_alloc]; omega) (fun q hq => (hown.lt q hq).1)
              have HO3 : Hid (w3.ownsRow w5.heap.size 5 1 v' (n - j) (dV .u8 (fun j => ch (X / b ^ (n - 1 - j) % b)) (n - j)) ∧ Below w5.heap.size w5 w3) := by
                refine ⟨?_, hb3⟩
                rw [HE.out.1, dV_succ, HE.out.2, HCR.out, HQQ.out]
                exact hown'
              clear hown' hb3 hgrow hnil hown hbl
              go_wp2
              go_roundw
              case rel => exact ⟨j, by go_num, by omega, HO3.out.1, HO3.out.2⟩
              case measure => first | (simp [intOf]; done) | (simp [intOf]; omega)
            · obtain rfl : m = 0 := by omega
              rw [Nat.sub_zero] at hown
              have hoc := own_cells hown
              obtain ⟨ao', c', b', rfl, o1, o2, o3, o4⟩ := hoc
              obtain ⟨o31, _, _⟩ := o3 (by omega)
              subst o31
              have hcell : ∀ i, i < n → wr.cell? ⟨b', 0 + i, none⟩ = some (.int .u8 (((List.range n).map fun i => ((ch (X / b ^ (n - 1 - i) % b) : Nat) : Int)).getD i 0)) := by
                intro i hi
                rw [o4 i hi]
                congr 2
                rw [List.getD_eq_getElem?_getD, List.getElem?_map, List.getElem?_range hi]
                rfl
              have hconv := run_convert_bytes_arg wr 160 5 und_text und_byte8 b' 0 n c' ((List.range n).map fun i => ((ch (X / b ^ (n - 1 - i) % b) : Nat) : Int)) (by simp) hcell 9 und_str9
              rw [show strOfNums ((List.range n).map fun i => ((ch (X / b ^ (n - 1 - i) % b) : Nat) : Int)) = rowText b X n from rfl] at hconv
              have BF : Below w.heap.size w wr := HK.out.2.2.2.trans (hbl.mono HK.out.2.2.2.size)
              clear hcell o4 hown
              generalize hTT : rowText b X n = TT at *
              have HTT : Hid (rowText b X n = TT) := hTT
              clear hTT
              go_wp2
              go_ret
              exact ⟨n, by rw [HTT.out]; rfl, HK.out.1, HK.out.2.1, HK.out.2.2.1, BF⟩
end Go.Proofs.YtfoaeholbidngaaGreatDoor
