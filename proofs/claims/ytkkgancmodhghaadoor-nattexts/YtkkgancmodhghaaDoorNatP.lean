/-
  What a call of nat.Digits answers for a number that is not 0.
-/
import Derived.Test.YtkkgancmodhghaaDoorNatO
namespace Go.Proofs.YtkkgancmodhghaaDoor
open Go.RowKit

/-- The digits, so many from the lowest on, the highest first, as a text. -/
def rowText (b x k : Nat) : ByteArray := strOfNums ((List.range k).map fun i => ((ch (x / b ^ (k - 1 - i) % b) : Nat) : Int))

theorem lows_glue (b x k j : Nat) : lows b x k ++ lows b (x / b ^ k) j = lows b x (k + j) := by
  induction j with
  | zero => show lows b x k ++ [] = _; rw [List.append_nil]; rfl
  | succ j ih => rw [lows_succ, ← List.append_assoc, ih, show k + (j + 1) = k + j + 1 by omega, lows_succ, Nat.div_div_eq_div_mul, ← Nat.pow_add]
theorem lows_mod (b x k j : Nat) (h : j ≤ k) : lows b (x % b ^ k) j = lows b x j := by
  unfold lows
  refine List.map_congr_left fun i hi => ?_
  have hi' : i < j := by simpa using hi
  rw [show b ^ k = b ^ i * b ^ (k - i) by rw [← Nat.pow_add, show i + (k - i) = k by omega], Nat.mod_mul_right_div_self]
  refine Nat.mod_mod_of_dvd _ ?_
  rw [show k - i = k - i - 1 + 1 by omega, Nat.pow_succ]
  exact Nat.dvd_mul_left _ _
theorem first_digit {b X : Nat} (hX : X ≠ 0) : ∀ k, X < b ^ k → ∃ K, K ≤ k ∧ 1 ≤ K ∧ b ^ (K - 1) ≤ X ∧ X < b ^ K
  | 0, h => by rw [Nat.pow_zero] at h; omega
  | k + 1, h => by
    rcases Nat.lt_or_ge X (b ^ k) with c | c
    · obtain ⟨K, a, r⟩ := first_digit hX k c
      exact ⟨K, by omega, r⟩
    · exact ⟨k + 1, Nat.le_refl _, by omega, by rw [Nat.add_sub_cancel]; exact c, h⟩
theorem few {X n r k b : Nat} (hb : 2 ≤ b) (hX : X < B ^ 128) (h : X / b ^ (r * k) ≠ 0) (hn : n = r * k) : n ≤ 8192 := by
  subst hn
  rcases Nat.lt_or_ge 8192 (r * k) with c | c
  · exfalso
    apply h
    apply Nat.div_eq_of_lt
    refine Nat.lt_of_lt_of_le hX ?_
    rw [B_pow]
    have c' : 64 * 128 ≤ r * k := by omega
    generalize 64 * 128 = N at *
    exact Nat.le_trans (Nat.pow_le_pow_right (by omega) c') (Nat.pow_le_pow_left hb _)
  · exact c

theorem ch_lt {d : Nat} (h : d < 36) : ch d < 256 := by unfold ch; split <;> omega
theorem rowText_size (b x k : Nat) : (rowText b x k).size = k := by unfold rowText; rw [strOfNums_size]; simp
theorem rowText_at {b x k i : Nat} (hb : 0 < b) (h2 : b ≤ 36) : ∀ hh, ((rowText b x k)[i]'hh).toNat = ch (x / b ^ (k - 1 - i) % b) := by
  intro hh
  have e : (rowText b x k)[i]'hh = UInt8.ofNat (ch (x / b ^ (k - 1 - i) % b)) := by
    show (rowText b x k).data[i]'hh = _
    unfold rowText strOfNums
    simp
  rw [e]
  exact Nat.mod_eq_of_lt (ch_lt (Nat.lt_of_lt_of_le (Nat.mod_lt _ hb) h2))
theorem rowText_cut {b x k K : Nat} (h : K ≤ k) : (rowText b x k).extract (k - K) k = rowText b x K := by
  apply ByteArray.ext
  rw [ByteArray.data_extract]
  apply Array.ext
  · unfold rowText strOfNums
    simp
    omega
  · intro i h1 h2
    unfold rowText strOfNums
    simp
    rw [show k - 1 - (k - K + i) = K - 1 - i by omega]
theorem digit_zero {b x K j : Nat} (h : x < b ^ K) (hj : K ≤ j) (hb : 0 < b) : x / b ^ j % b = 0 := by
  rw [Nat.div_eq_of_lt (Nat.lt_of_lt_of_le h (Nat.pow_le_pow_right hb hj)), Nat.zero_mod]
theorem digit_first {b x K : Nat} (hb : 0 < b) (hK : 1 ≤ K) (h1 : b ^ (K - 1) ≤ x) (h2 : x < b ^ K) : x / b ^ (K - 1) % b ≠ 0 := by
  have p : 0 < b ^ (K - 1) := Nat.pow_pos hb
  have a : 1 ≤ x / b ^ (K - 1) := (Nat.le_div_iff_mul_le p).mpr (by omega)
  have c : x / b ^ (K - 1) < b := by
    rw [Nat.div_lt_iff_lt_mul p, Nat.mul_comm, ← Nat.pow_succ, show (K - 1).succ = K by omega]; exact h2
  rw [Nat.mod_eq_of_lt c]
  omega
theorem ch_48 {d : Nat} : ch d = 48 ↔ d = 0 := by unfold ch; split <;> omega
theorem und_byte8 : Tryd.prog.underlying 5 = some (.int .u8) := by kernel_rfl
theorem und_str9 : Tryd.prog.underlying 9 = some .string := by kernel_rfl

/-- What the loop of Digits has laid: so many digits, and what is left of the number. -/
structure DgI (g n b X P k0 r t base : Nat) (Fr : Nat → Nat) (tx : Value) (w0 wr : World) : Prop where
  row : Row wr g n Fr
  tn : t ≤ n
  top : Top Fr t
  val : V Fr t = X / b ^ (r * k0)
  own : wr.ownsRow base 5 1 tx (r * k0) (chV (lows b X (r * k0)))
  below : Below w0.heap.size w0 wr
  size : base ≤ wr.heap.size
  small : r * k0 ≤ 8256

set_option maxRecDepth 100000 in
set_option maxHeartbeats 4000000 in
theorem digits_any {w : World} {va : Value} {X : Nat} (ha : NatV w va X) (hX : X ≠ 0) (b : Nat) (h1 : 2 ≤ b) (h2 : b ≤ 36) :
    Calls Tryd.prog 39 #[va, .int .i64 (b : Int)] w fun e w' => ∃ K : Nat, e = .returned (.tuple #[.string (rowText b X K), .nilIface]) ∧ 1 ≤ K ∧ b ^ (K - 1) ≤ X ∧ X < b ^ K ∧ Below w.heap.size w w' := by
  obtain ⟨ao, n, c, bb, o, f, rfl, S, t, rfl, hn⟩ := ha
  have hn0 := natv_pos S hX
  have hXB : V f n < B ^ 128 := Nat.lt_of_lt_of_le (V_lt S.ws n) (Nat.pow_le_pow_right B_pos hn)
  have V1 := valid_any S
  rw [verr_ok hn t] at V1
  unfold errV at V1
  have hz : ((n : Int) == 0) = false := beq_eq_false_iff_ne.mpr (by omega)
  have IB := isBase_yes b h1 h2
  have CH := chunk_any b h1 h2
  have hmk := run_make_row' (P := Tryd.prog) 23 35 (.int .u64 0) 8 und_nat info_u64 rfl .i64 .i64 n (by omega) (by omega)
  have HX : Hid (V f n ≠ 0 ∧ V f n < B ^ 128 ∧ Top f n) := ⟨hX, hXB, t⟩
  clear hX hXB t
  go_enter Tryd.func39, Tryd.ntmps39
  go_wp2_with fail
  refine V1.mono ?_
  rintro e w1 ⟨rfl, hb1⟩
  go_wp2_with fail
  refine (IB _).mono ?_
  rintro e w1' ⟨rfl, rfl⟩
  have S1 := S.below hb1
  have bA : Below w1'.heap.size w1' (w1'.alloc (.cells (madeCells #[.int .u64 0] n) 35)) := (Below.refl _ _).alloc (Nat.le_refl _) _
  obtain ⟨w2, hcp, R2, hg2⟩ := copy_run (cz := n) (made_row w1' n) (S1.below bA) (Nat.le_refl n)
  have b2 : Below w1'.heap.size w1' w2 := below_grown bA hg2 (Nat.le_refl _)
  go_wp2_with fail
  refine (CH _).mono ?_
  rintro e w3 ⟨k0, P, rfl, hP, hk1, hk64, hPB, rfl⟩
  have HP : Hid (P = b ^ k0 ∧ P < B) := ⟨hP, hPB⟩
  have hglt : w1'.heap.size < w3.heap.size := R2.row.lt
  have hwf : Ws (fun i => if i < n then f i else 0) := R2.ws
  have D0 : Hid (DgI w1'.heap.size n b (V f n) P k0 0 n w3.heap.size (fun i => if i < n then f i else 0) (.slice none 0 0) w w3) := by
    refine ⟨R2, Nat.le_refl _, ?_, ?_, ?_, hb1.trans (b2.mono hb1.size), Nat.le_refl _, by omega⟩
    · rcases HX.out.2.2 with q | q
      · exact Or.inl q
      · right; show (if n - 1 < n then f (n - 1) else 0) ≠ 0; rw [if_pos (by omega)]; exact q
    · rw [Nat.zero_mul, Nat.pow_zero, Nat.div_one]; exact V_congr fun i hi => by show (if i < n then f i else 0) = f i; rw [if_pos hi]
    · rw [Nat.zero_mul]; exact World.ownsRow_nil _ _ _ _
  clear hP hPB R2 hg2 bA b2 S1 hmk hcp hwf V1 IB CH
  go_wp2
  go_loopg [7, 10] (V f n) (fun gk rs tx wr => ∃ (r t cc : Nat) (Fr : Nat → Nat), rs = .slice (some ⟨w1'.heap.size, 0, none⟩) t cc ∧ gk = V Fr t ∧ t ≤ cc ∧ cc ≤ n ∧ DgI w1'.heap.size n b (V f n) P k0 r t w3.heap.size Fr tx w wr)
  case atStart => exact ⟨0, n, n, _, rfl, by rw [D0.out.val, Nat.zero_mul, Nat.pow_zero, Nat.div_one], Nat.le_refl _, Nat.le_refl _, D0.out⟩
  case round =>
    obtain ⟨r, t, cc, Fr, rfl, rfl, htc, hcn, I⟩ := hrel
    have tn := I.tn
    have HI : Hid (DgI w1'.heap.size n b (V f n) P k0 r t w3.heap.size Fr _ w wr) := I
    clear I D0
    by_cases c1 : 0 < t
    · have DB := divideBy_any (c := cc) HI.out.row tn (by omega) P (by have := HP.out.1; have := Nat.pow_pos (n := k0) (show 0 < b by omega); omega) HP.out.2
      have hvt := HI.out.val
      have hvne : V Fr t ≠ 0 := by
        have q := Top_ge HI.out.top c1
        have := Bp_pos (t - 1)
        omega
      have hfew : r * k0 ≤ 8192 := few h1 HX.out.2.1 (by rw [← hvt]; exact hvne) rfl
      have hP2 : 2 ≤ P := by
        rw [HP.out.1]
        have q : b ^ 1 ≤ b ^ k0 := Nat.pow_le_pow_right (by omega) hk1
        rw [Nat.pow_one] at q
        omega
      have hmB : V Fr t % P < B := Nat.lt_trans (Nat.mod_lt _ (by omega)) HP.out.2
      have HN : Hid (V Fr t ≠ 0 ∧ V Fr t = V f n / b ^ (r * k0) ∧ V Fr t % P < B) := ⟨hvne, hvt, hmB⟩
      clear hvt hvne hmB
      obtain ⟨md, hmd⟩ : ∃ x, V Fr t % P = x := ⟨_, rfl⟩
      have HMD : Hid (V Fr t % P = md) := hmd
      rw [hmd] at DB
      clear hmd
      go_wp2_with fail
      refine DB.mono ?_
      rintro e w5 ⟨rfl, hg5, F5, R5, hv5⟩
      have own5 := HI.out.own.kept hg5 (Or.inr (fun e => by have := (HI.out.own.lt _ e).1; omega))
      have hs5 : w3.heap.size ≤ w5.heap.size := Nat.le_trans HI.out.size hg5.size
      have LW := lowest_any own5 hs5 md (by rw [← HMD.out]; exact HN.out.2.2) k0 hk64 (by omega) b h1 h2
      go_wp2_with fail
      refine LW.mono ?_
      rintro e w6 ⟨v6, rfl, own6, hb6⟩
      have R6 : Row w6 w1'.heap.size n F5 := ⟨R5.row.of_block (hb6.block _ hglt), R5.ws⟩
      have S6 : Sl w6 (some ⟨w1'.heap.size, 0, none⟩) t cc w1'.heap.size 0 F5 := by
        have q := R6.sl (o := 0) (n := t) (c := cc) (by omega) htc (by unfold maxLen; omega)
        rw [show (fun i => F5 (0 + i)) = F5 from funext fun i => by rw [Nat.zero_add]] at q
        exact q
      have TR := trim_any S6
      have hb56 : Below w.heap.size w w6 := (below_grown HI.out.below hg5 hb1.size).trans (hb6.mono (by have := hb1.size; omega))
      have H6 : Hid (DgI w1'.heap.size n b (V f n) P k0 (r + 1) (tl F5 t) w3.heap.size F5 v6 w w6 ∧ V F5 (tl F5 t) < V Fr t ∧ tl F5 t ≤ n) := by
        have tle := tl_le F5 t
        refine ⟨⟨R6, by omega, tl_top F5 t, ?_, ?_, hb56, Nat.le_trans hs5 hb6.size, by rw [Nat.succ_mul]; omega⟩, ?_, by omega⟩
        · rw [tl_V, hv5, HN.out.2.1, HP.out.1, Nat.div_div_eq_div_mul, ← Nat.pow_add, Nat.succ_mul]
        · rw [Nat.succ_mul, ← lows_glue, ← HN.out.2.1]
          rw [← HMD.out, HP.out.1, lows_mod b _ k0 k0 (Nat.le_refl _)] at own6
          exact own6
        · rw [tl_V, hv5]; exact Nat.div_lt_self (Nat.pos_of_ne_zero HN.out.1) hP2
      clear hb56 S6 R6 own6 hb6 LW own5 R5 hv5 hg5 DB
      generalize tl F5 t = t6 at *
      go_wp2_with fail
      refine TR.mono ?_
      rintro e w7 ⟨rfl, rfl⟩
      go_wp2
      go_roundg (V F5 t6)
      case measure => exact H6.out.2.1
      case rel => exact ⟨r + 1, t6, t6, F5, rfl, rfl, Nat.le_refl _, H6.out.2.2, H6.out.1⟩
    · obtain rfl : t = 0 := by omega
      have hv0 := HI.out.val
      rw [V_zero] at hv0
      have hXlt : V f n < b ^ (r * k0) := by
        have p : 0 < b ^ (r * k0) := Nat.pow_pos (by omega)
        exact (Nat.div_eq_zero_iff_lt p).mp hv0.symm
      have sm := HI.out.small
      have hbel := HI.out.below
      have hsz3 := HI.out.size
      have hN0 : 0 < r * k0 := by
        rcases Nat.eq_zero_or_pos (r * k0) with q | q
        · rw [q, Nat.pow_zero] at hXlt; have := HX.out.1; omega
        · exact q
      obtain ⟨K, hKk, hK1, hKlo, hKhi⟩ := first_digit HX.out.1 (r * k0) hXlt
      have hown := HI.out.own
      clear hv0 hXlt
      obtain ⟨N, hN⟩ : ∃ N, r * k0 = N := ⟨_, rfl⟩
      rw [hN] at sm hN0 hKk hown
      rcases hown.2 with ⟨_, q⟩ | ⟨gt, cap, cur, hv, hbg, hheap, hle, hmx, hcs, htk⟩
      · omega
      rw [Nat.mul_one] at hcs htk
      have hfv : ∀ i, i < N → (fun i => cur.getD i undef) i = .int .u8 ((ch (V f n / b ^ i % b) : Nat) : Int) := by
        intro i hi
        have q : (cur.toList.take N)[i]? = (chV (lows b (V f n) N))[i]? := by rw [htk]
        rw [List.getElem?_take_of_lt hi] at q
        have q2 : (chV (lows b (V f n) N))[i]? = some (.int .u8 ((ch (V f n / b ^ i % b) : Nat) : Int)) := by
          unfold chV lows
          rw [List.getElem?_map, List.getElem?_map, List.getElem?_range hi]
          rfl
        rw [q2] at q
        have q3 : cur[i]? = some (.int .u8 ((ch (V f n / b ^ i % b) : Nat) : Int)) := by simpa using q
        show cur.getD i undef = _
        rw [Array.getD_eq_getD_getElem?, q3]
        rfl
      have hrow : wr.rowIs gt 5 cap (fun i => cur.getD i undef) := ⟨cur, hheap, hcs, fun i hi => by
        show cur[i]? = some (cur.getD i undef)
        rw [Array.getD_eq_getD_getElem?, Array.getElem?_eq_getElem (by omega)]
        rfl⟩
      have hfv2 : ∀ i, i < N → cur.getD i undef = .int .u8 ((ch (V f n / b ^ i % b) : Nat) : Int) := hfv
      have RV := reverse_any (c := cap) hrow hfv hle (by omega)
      have hgt : w.heap.size ≤ gt := by have := hb1.size; omega
      have HF : Hid (1 ≤ K ∧ b ^ (K - 1) ≤ V f n ∧ V f n < b ^ K ∧ K ≤ N ∧ Below w.heap.size w wr) := ⟨hK1, hKlo, hKhi, hKk, hbel⟩
      clear hK1 hKlo hKhi hKk hbel hrow hfv htk hheap hown hcs
      subst hv
      go_wp2_with fail
      refine RV.mono ?_
      rintro e w8 ⟨rfl, hg8, f8, R8, h8⟩
      have hcell : ∀ i, i < N → w8.cell? ⟨gt, 0 + i, none⟩ = some (.int .u8 (((List.range N).map fun i => ((ch (V f n / b ^ (N - 1 - i) % b) : Nat) : Int)).getD i 0)) := by
        intro i hi
        rw [Nat.zero_add, R8.cell (by omega), h8 i hi, hfv2 (N - 1 - i) (by omega)]
        congr 2
        rw [List.getD_eq_getElem?_getD, List.getElem?_map, List.getElem?_range hi]
        rfl
      have hconv := run_convert_bytes_arg w8 105 5 und_text und_byte8 gt 0 N cap ((List.range N).map fun i => ((ch (V f n / b ^ (N - 1 - i) % b) : Nat) : Int)) (by simp) hcell 9 und_str9
      rw [show strOfNums ((List.range N).map fun i => ((ch (V f n / b ^ (N - 1 - i) % b) : Nat) : Int)) = rowText b (V f n) N from rfl] at hconv
      have rs := rowText_size b (V f n) N
      have TL := trimLeft_any (rowText b (V f n) N) (by rw [rs]; omega) (N - K) (by rw [rs]; omega) (by rw [rs]; exact hN0)
        (fun i hi => by rw [rowText_at (by omega) h2, ch_48]; exact digit_zero HF.out.2.2.1 (by have := HF.out.2.2.2.1; omega) (by omega))
        (fun hh => by
          rw [rowText_at (by omega) h2]
          intro q
          rw [ch_48, show N - 1 - (N - K) = K - 1 by have := HF.out.2.2.2.1; have := HF.out.1; omega] at q
          exact digit_first (by omega) HF.out.1 HF.out.2.1 HF.out.2.2.1 q)
      rw [rs, rowText_cut HF.out.2.2.2.1] at TL
      have HB8 : Hid (Below w.heap.size w w8) := below_grown HF.out.2.2.2.2 hg8 hgt
      clear hcell rs h8 R8 hg8 RV
      generalize rowText b (V f n) N = TT at *
      go_wp2_with fail
      refine (TL _).mono ?_
      rintro e w9 ⟨rfl, rfl⟩
      go_wp2
      refine bodyPost_ret (v := .tuple #[.string (rowText b (V f n) K), .nilIface]) (by simp [results, Tryd.results39, go_sem]) rfl ⟨K, rfl, HF.out.1, HF.out.2.1, HF.out.2.2.1, HB8.out⟩

end Go.Proofs.YtkkgancmodhghaaDoor
