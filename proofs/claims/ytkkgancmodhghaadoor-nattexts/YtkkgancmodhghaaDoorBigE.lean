/-
  What the document's ByWord, Value and Read answer.
-/
import Derived.Test.YtkkgancmodhghaaDoorBigT
import Derived.Test.YtkkgancmodhghaaDoorNatRf
import Derived.Test.YtkkgancmodhghaaDoorNatWs
namespace Go.Proofs.YtkkgancmodhghaaDoor
open Go.RowKit

theorem by_stepB {T x d : Nat} (hd : 0 < d) : (T * Big.B + x) / d = T / d * Big.B + (T % d * Big.B + x) / d ∧ (T * Big.B + x) % d = (T % d * Big.B + x) % d := by
  have e : T * Big.B + x = d * (T / d * Big.B) + (T % d * Big.B + x) := by
    have q := Nat.div_add_mod T d
    have r : T * Big.B = d * (T / d * Big.B) + T % d * Big.B := by
      rw [← Nat.mul_assoc, ← Nat.add_mul, q]
    omega
  rw [e, Nat.mul_add_div hd, Nat.mul_add_mod]
  exact ⟨rfl, rfl⟩
theorem V_topB (f : Nat → Nat) (k n : Nat) (h : k < n) : Big.V (fun i => f (k + i)) (n - k) = Big.V (fun i => f (k + 1 + i)) (n - (k + 1)) * Big.B + f k := by
  obtain ⟨m, e⟩ : ∃ m, n - k = 1 + m := ⟨n - k - 1, by omega⟩
  have s := Big.V_split (fun i => f (k + i)) 1 m
  rw [e, s, show n - (k + 1) = m by omega, Nat.pow_one, Big.V_succ, Big.V_zero, Nat.pow_zero, Nat.mul_one, Nat.zero_add, Nat.add_zero, Nat.add_comm]
  congr 2
  exact Big.V_congr fun i _ => by show f (k + (1 + i)) = f (k + 1 + i); rw [Nat.add_assoc]
theorem pair_or2 {x y : Nat} (hx : x < Big.B) (hy : y < Big.B) : bits .or .u64 ((y : Int) * 4294967296) (x : Int) = ((y * Big.B + x : Nat) : Int) := by
  have p := pair_or hx hy
  have e : (y : Int) * 4294967296 = ((y * 4294967296 : Nat) : Int) := by rw [Int.natCast_mul]; rfl
  have hy' : y * 4294967296 < 18446744073709551616 := by unfold Big.B at hy; omega
  have hx' : x < 18446744073709551616 := by unfold Big.B at hx; omega
  rw [e] at p ⊢
  rw [bits_or_u64_nat _ _ hx' hy'] at p
  rw [bits_or_u64_nat _ _ hy' hx', Nat.or_comm, p, Nat.add_comm]
theorem by_fits {T x d : Nat} (hT : T < d) (hx : x < Big.B) : (T * Big.B + x) / d < Big.B := by
  rw [Nat.div_lt_iff_lt_mul (by omega), Nat.mul_comm Big.B d]
  have := Nat.mul_le_mul_right Big.B (Nat.succ_le_of_lt hT)
  rw [Nat.succ_mul] at this
  omega

set_option maxRecDepth 100000 in
set_option maxHeartbeats 2000000 in
theorem byword_big {w : World} {ao : Option Addr} {n c b o : Nat} {f : Nat → Nat} (S : Big.Sl w ao n c b o f) (hn : n ≤ 1000) (d : Nat) (hd : 0 < d) (hdB : d < Big.B) :
    Calls Tryd.prog 95 #[.slice ao n c, .int .u64 (d : Int)] w fun e w' => ∃ v, e = .returned (.tuple #[v, .int .u64 ((Big.V f n % d : Nat) : Int)]) ∧ Big.NewV w' w.heap.size v (Big.V f n / d) ∧ Below w.heap.size w w' := by
  have hmk := run_make_row' (P := Tryd.prog) 78 116 (.int .u32 0) 4 Big.und_big Big.info_u32 rfl .i64 .i64 n (by omega) (by omega)
  have HS : Hid (Big.Sl w ao n c b o f) := S
  have HD : Hid (0 < d ∧ d < Big.B) := ⟨hd, hdB⟩
  have d0 : ((d : Int) == 0) = false := beq_eq_false_iff_ne.mpr (by omega)
  have hd4 : d < 4294967296 := hdB
  obtain ⟨R, hR⟩ : ∃ R, R = Big.V f n % d := ⟨_, rfl⟩
  have HR : Hid (R = Big.V f n % d) := hR
  rw [← hR]
  clear S hdB hR
  go_enter Tryd.func95, Tryd.ntmps95
  go_wp2
  go_loopw [7, 8] (fun r i wr => ∃ (k l : Nat) (F : Nat → Nat), r = .int .u64 (l : Int) ∧ i = .int .i64 ((k : Int) - 1) ∧ k ≤ n ∧ l < d ∧ Big.Row wr w.heap.size n F ∧ Below w.heap.size w wr ∧ Hid (Big.V (fun i => F (k + i)) (n - k) = Big.V (fun i => f (k + i)) (n - k) / d ∧ l = Big.V (fun i => f (k + i)) (n - k) % d)) (fun _ i _ => (intOf i + 1).toNat)
  case atStart => exact ⟨n, 0, fun _ => 0, rfl, rfl, Nat.le_refl _, hd, Big.made_row _ _, (Below.refl _ _).alloc (Nat.le_refl _) _, ⟨by rw [Nat.sub_self, Big.V_zero, Big.V_zero, Nat.zero_div], by rw [Nat.sub_self, Big.V_zero, Nat.zero_mod]⟩⟩
  case round =>
    obtain ⟨k, l, F, rfl, rfl, hk, hl, RF, hbl, HV⟩ := hrel
    by_cases c1 : 0 < k
    · obtain ⟨j, rfl⟩ : ∃ j, k = j + 1 := ⟨k - 1, by omega⟩
      have hj : j < n := by omega
      obtain rfl := HS.out.addr (by omega)
      have hc := (HS.out.below hbl).cell j hj
      have cz := RF.row.cell (i := j) hj
      have fz := RF.row.frozen j
      have hx := HS.out.ws j
      have hor := pair_or2 hx (Nat.lt_trans hl HD.out.2)
      have hfit := by_fits hl hx
      obtain ⟨s1, s2⟩ := by_stepB (T := Big.V (fun i => f (j + 1 + i)) (n - (j + 1))) (x := f j) HD.out.1
      rw [← HV.out.2, ← V_topB f j n hj] at s1 s2
      have hq : ((l * Big.B + f j : Nat) : Int) / (d : Int) = (((l * Big.B + f j) / d : Nat) : Int) := by rw [Int.natCast_ediv]
      have hm : ((l * Big.B + f j : Nat) : Int) % (d : Int) = (((l * Big.B + f j) % d : Nat) : Int) := by rw [Int.natCast_emod]
      have e1 := wrap_lo32 hfit
      have hml : (l * Big.B + f j) % d < d := Nat.mod_lt _ HD.out.1
      have htot : l * Big.B + f j < 18446744073709551616 := by
        have := pair_lt hx (Nat.lt_trans hl HD.out.2)
        unfold B at this
        omega
      have HST : Hid (Big.V (fun i => f (j + i)) (n - j) / d = Big.V (fun i => f (j + 1 + i)) (n - (j + 1)) / d * Big.B + (l * Big.B + f j) / d ∧ Big.V (fun i => f (j + i)) (n - j) % d = (l * Big.B + f j) % d) := ⟨s1, s2⟩
      have HRF : Hid (Big.Row wr w.heap.size n F ∧ Below w.heap.size w wr) := ⟨RF, hbl⟩
      have HFT : Hid ((l * Big.B + f j) / d < Big.B) := hfit
      have ij : ((j + 1 : Nat) : Int) - 1 = (j : Int) := by omega
      simp only [Int.natCast_add, Int.natCast_one] at ij
      clear s1 s2 RF hbl hfit
      unfold Big.B at hx
      generalize (l * Big.B + f j) / d = q at *
      generalize (l * Big.B + f j) % d = m at *
      generalize l * Big.B + f j = y at *
      have hq4 : q < 4294967296 := HFT.out
      have e2 : (q : Int) % 4294967296 = (q : Int) := by omega
      have e3 : IntKind.u64.wrap (q : Int) = (q : Int) := by rw [IntKind.wrap_u64]; omega
      go_wp2
      go_roundw
      case rel =>
        refine ⟨j, m, Big.put F j q, by rw [hm], by go_num, by omega, hml, HRF.out.1.set j HFT.out, HRF.out.2.setCell (Nat.le_refl _) _, ?_, HST.out.2.symm⟩
        rw [V_topB (Big.put F j q) j n hj, Big.put_at, HST.out.1, ← HV.out.1]
        congr 2
        exact Big.V_congr fun i _ => Big.put_ne (by omega)
      case measure => first | (simp [intOf]; done) | (simp [intOf]; omega)
    · obtain rfl : k = 0 := by omega
      have T := Big.trim_any (RF.sl0 (by unfold maxLen; omega))
      have NV := (RF.sl0 (by unfold maxLen; omega)).trimmedN (base := w.heap.size) (fun _ => Nat.le_refl _)
      have e0 : (fun i => F (0 + i)) = F := funext fun i => by rw [Nat.zero_add]
      have e1 : (fun i => f (0 + i)) = f := funext fun i => by rw [Nat.zero_add]
      have hv := HV.out
      rw [e0, e1, Nat.sub_zero] at hv
      rw [hv.1] at NV
      have hl' : l = R := by rw [HR.out]; exact hv.2
      subst hl'
      clear RF hv e0 e1
      go_wp2_with fail
      refine T.mono ?_
      rintro e wa ⟨rfl, rfl⟩
      go_wp2
      refine bodyPost_ret (v := .tuple #[_, .int .u64 (l : Int)]) (by simp [results, Tryd.results95, go_sem]) rfl ⟨_, rfl, NV, hbl⟩

/-- A byte's value; -1: it is no digit. -/
def rv (c : Nat) : Int := if dv c < 36 then (dv c : Int) else -1
set_option maxRecDepth 100000 in
set_option maxHeartbeats 1000000 in
theorem value_any (c : Nat) (hc : c < 256) (w : World) :
    Calls Tryd.prog 80 #[.int .u8 (c : Int)] w fun e w' => e = .returned (.int .i64 (rv c)) ∧ w' = w := by
  by_cases a : 48 ≤ c ∧ c ≤ 57
  · have e : rv c = (c : Int) - 48 := by unfold rv dv; rw [if_pos a, if_pos (by omega)]; omega
    rw [e]
    obtain ⟨a1, a2⟩ := a
    have b1 : (48 : Int) ≤ (c : Int) := by omega
    have b2 : (c : Int) ≤ 57 := by omega
    clear e
    go_enter Tryd.func80, Tryd.ntmps80
    go_wp2
    go_ret
    exact ⟨rfl, rfl⟩
  · by_cases b : 97 ≤ c ∧ c ≤ 122
    · have e : rv c = (c : Int) - 97 + 10 := by unfold rv dv; rw [if_neg a, if_pos b, if_pos (by omega)]; omega
      rw [e]
      obtain ⟨a1, a2⟩ := b
      have b1 : (97 : Int) ≤ (c : Int) := by omega
      have b2 : (c : Int) ≤ 122 := by omega
      have b3 : ¬ (c : Int) ≤ 57 := by omega
      clear e a
      go_enter Tryd.func80, Tryd.ntmps80
      go_wp2
      go_ret
      exact ⟨rfl, rfl⟩
    · by_cases d : 65 ≤ c ∧ c ≤ 90
      · have e : rv c = (c : Int) - 65 + 10 := by unfold rv dv; rw [if_neg a, if_neg b, if_pos d, if_pos (by omega)]; omega
        rw [e]
        obtain ⟨a1, a2⟩ := d
        have b1 : (65 : Int) ≤ (c : Int) := by omega
        have b2 : (c : Int) ≤ 90 := by omega
        have b3 : ¬ (c : Int) ≤ 57 := by omega
        have b4 : ¬ (97 : Int) ≤ (c : Int) := by omega
        clear e a b
        go_enter Tryd.func80, Tryd.ntmps80
        go_wp2
        go_ret
        exact ⟨rfl, rfl⟩
      · have e : rv c = -1 := by unfold rv dv; rw [if_neg a, if_neg b, if_neg d, if_neg (by omega)]
        rw [e]
        clear e
        go_enter Tryd.func80, Tryd.ntmps80
        go_wp2
        all_goals first | omega | (go_ret; exact ⟨rfl, rfl⟩)

end Go.Proofs.YtkkgancmodhghaaDoor
