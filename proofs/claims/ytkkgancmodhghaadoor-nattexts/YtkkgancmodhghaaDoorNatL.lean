/-
  What the calls of nat.divideBy, chunk and isBase answer.
-/
import Derived.Test.YtkkgancmodhghaaDoorNatK
namespace Go.Proofs.YtkkgancmodhghaaDoor
open Go.RowKit

theorem div64N (hi lo d : Nat) (h2 : lo < B) (h3 : d < B) (hlt : hi < d) (w : World) :
    Calls Tryd.prog 87 #[.int .u64 (hi : Int), .int .u64 (lo : Int), .int .u64 (d : Int)] w fun e w' => e = .returned (.tuple #[.int .u64 (((hi * B + lo) / d : Nat) : Int), .int .u64 (((hi * B + lo) % d : Nat) : Int)]) ∧ Below w.heap.size w w' := by
  unfold B at *
  refine (div64_any (hi : Int) (lo : Int) (d : Int) ⟨by omega, by omega⟩ ⟨by omega, by omega⟩ ⟨by omega, by omega⟩ (by omega) w).mono ?_
  rintro e w' ⟨rfl, hb⟩
  refine ⟨?_, hb⟩
  unfold dvQ dvR
  rw [Int.natCast_ediv, Int.natCast_emod, Int.natCast_add, Int.natCast_mul]
  rfl

/-- One word more of a quotient, from the top. -/
theorem by_step {T x d : Nat} (hd : 0 < d) : (T * B + x) / d = T / d * B + (T % d * B + x) / d ∧ (T * B + x) % d = (T % d * B + x) % d := by
  have e := Nat.div_add_mod T d
  have q : T * B + x = d * (T / d * B) + (T % d * B + x) := by
    generalize T / d = a at *
    generalize T % d = b at *
    rw [← e]
    generalize B = β
    grind
  rw [q]
  exact ⟨by rw [Nat.mul_add_div hd], by rw [Nat.mul_add_mod]⟩
theorem V_top (f : Nat → Nat) (k n : Nat) (h : k < n) : V (fun i => f (k + i)) (n - k) = V (fun i => f (k + 1 + i)) (n - (k + 1)) * B + f k := by
  have e := V_split (fun i => f (k + i)) 1 (n - (k + 1))
  rw [show 1 + (n - (k + 1)) = n - k by omega, V_succ, V_zero, Nat.pow_zero, Nat.pow_one, Nat.zero_add, Nat.mul_one, Nat.add_zero] at e
  rw [e, Nat.add_comm]
  congr 2
  exact V_congr fun i _ => by show f (k + (1 + i)) = f (k + 1 + i); rw [Nat.add_assoc]

set_option maxRecDepth 100000 in
set_option maxHeartbeats 2000000 in
theorem divideBy_any {w : World} {g N n c : Nat} {F : Nat → Nat} (R : Row w g N F) (hn : n ≤ N) (hn2 : n ≤ 1000) (d : Nat) (hd : 0 < d) (hdB : d < B) :
    Calls Tryd.prog 59 #[.slice (some ⟨g, 0, none⟩) n c, .int .u64 (d : Int)] w fun e w' => e = .returned (.int .u64 ((V F n % d : Nat) : Int)) ∧ w.grownBy w' (some g) ∧
      ∃ F', Row w' g N F' ∧ V F' n = V F n / d := by
  have HD : Hid (0 < d ∧ d < B) := ⟨hd, hdB⟩
  clear hd hdB
  go_enter Tryd.func59, Tryd.ntmps59
  go_wp2
  go_loopw [5, 6] (fun lf i wr => ∃ (k l : Nat) (F' : Nat → Nat), lf = .int .u64 (l : Int) ∧ i = .int .i64 ((k : Int) - 1) ∧ k ≤ n ∧ Row wr g N F' ∧ w.grownBy wr (some g) ∧ (∀ i, i < k → F' i = F i) ∧ V (fun i => F' (k + i)) (n - k) = V (fun i => F (k + i)) (n - k) / d ∧ l = V (fun i => F (k + i)) (n - k) % d) (fun _ i _ => (intOf i + 1).toNat)
  case atStart => exact ⟨n, 0, F, rfl, rfl, Nat.le_refl _, R, World.grownBy.refl _ _, fun i _ => rfl, by rw [Nat.sub_self, V_zero, Nat.zero_div], by rw [Nat.sub_self, V_zero, Nat.zero_mod]⟩
  case round =>
    obtain ⟨k, l, F', rfl, rfl, hk, R', hgr, hfr, hv, hl⟩ := hrel
    have HR : Hid (Row wr g N F' ∧ w.grownBy wr (some g)) := ⟨R', hgr⟩
    have HV : Hid ((∀ i, i < k → F' i = F i) ∧ V (fun i => F' (k + i)) (n - k) = V (fun i => F (k + i)) (n - k) / d ∧ l = V (fun i => F (k + i)) (n - k) % d) := ⟨hfr, hv, hl⟩
    clear hfr hv
    by_cases c1 : 0 < k
    · obtain ⟨i, rfl⟩ : ∃ i, k = i + 1 := ⟨k - 1, by omega⟩
      have cz := R'.row.cell (i := i) (by omega)
      have fz := R'.row.frozen i
      have hld : l < d := by rw [hl]; exact Nat.mod_lt _ HD.out.1
      have T := fun W => div64N l (F' i) d (R'.ws i) HD.out.2 hld W
      have hqB : (l * B + F' i) / d < B := by
        have q := gW_lt (hi := l) (d := d) (R'.ws i)
        unfold gW at q
        rw [if_neg (by omega)] at q
        exact q
      obtain ⟨b1, b2⟩ := by_step (T := V (fun j => F (i + 1 + j)) (n - (i + 1))) (x := F i) HD.out.1
      have HB : Hid ((V (fun j => F (i + 1 + j)) (n - (i + 1)) * B + F i) / d = V (fun j => F (i + 1 + j)) (n - (i + 1)) / d * B + (l * B + F' i) / d ∧ (V (fun j => F (i + 1 + j)) (n - (i + 1)) * B + F i) % d = (l * B + F' i) % d) := by
        rw [HV.out.1 i (by omega), hl]; exact ⟨b1, b2⟩
      have HQ : Hid ((l * B + F' i) / d < B) := hqB
      clear R' hgr hl b1 b2 hqB hld
      generalize (l * B + F' i) / d = q at *
      generalize (l * B + F' i) % d = r at *
      rw [show ((i + 1 : Nat) : Int) - 1 = (i : Int) by omega]
      go_wp2_with fail
      refine (T _).mono ?_
      rintro e wa ⟨rfl, hba⟩
      have Ra := HR.out.1.below hba
      have ca := Ra.row.cell (i := i) (by omega)
      have fa := Ra.row.frozen i
      have HRa : Hid (Row wa g N F' ∧ w.grownBy wa (some g)) := ⟨Ra, grown_trans HR.out.2 ⟨hba.os, hba.tape, hba.output, hba.size, fun k hk _ => hba.block k hk⟩⟩
      clear Ra cz fz hba T
      go_wp2
      go_roundw
      case rel =>
        refine ⟨i, r, put F' i q, rfl, by go_num, by omega, HRa.out.1.set i HQ.out, grown_set HRa.out.2 _, fun j hj => ?_, ?_, ?_⟩
        · rw [put_ne (by omega)]; exact HV.out.1 j (by omega)
        · rw [V_top (put F' i q) i n (by omega), V_top F i n (by omega), put_at, V_congr (f := fun j => put F' i q (i + 1 + j)) (g := fun j => F' (i + 1 + j)) (fun j _ => put_ne (by omega)), HV.out.2.1]
          exact HB.out.1.symm
        · rw [V_top F i n (by omega)]; exact HB.out.2.symm
      case measure => first | (simp [intOf]; done) | (simp [intOf]; omega)
    · obtain rfl : k = 0 := by omega
      have e0 : ∀ f : Nat → Nat, (fun i => f (0 + i)) = f := fun f => funext fun i => by rw [Nat.zero_add]
      have h2 := HV.out.2
      rw [e0, e0, Nat.sub_zero] at h2
      have HE : Hid (V F' n = V F n / d ∧ l = V F n % d) := h2
      clear R' hgr hl h2 c1 e0
      go_wp2
      go_ret
      exact ⟨by rw [← HE.out.2]; rfl, HR.out.2, F', HR.out.1, HE.out.1⟩

set_option maxHeartbeats 1000000 in
theorem chunk_any (b : Nat) (h1 : 2 ≤ b) (h2 : b ≤ 36) (w : World) :
    Calls Tryd.prog 72 #[.int .i64 (b : Int)] w fun e w' => ∃ k P : Nat, e = .returned (.tuple #[.int .i64 (k : Int), .int .u64 (P : Int)]) ∧ P = b ^ k ∧ 1 ≤ k ∧ k ≤ 64 ∧ P < B ∧ w' = w := by
  go_enter Tryd.func72, Tryd.ntmps72
  go_wp2
  go_loop [4, 5] (fun c p => ∃ k P : Nat, c = .int .i64 (k : Int) ∧ p = .int .u64 (P : Int) ∧ Hid (P = b ^ k) ∧ k ≤ 64 ∧ P < B) (fun c _ => 64 - (intOf c).toNat)
  case atStart => exact ⟨0, 1, rfl, rfl, rfl, by omega, by decide⟩
  case round =>
    obtain ⟨k, P, rfl, rfl, HP, hk, hlt⟩ := hrel
    have hk64 : k < 64 := by
      rcases Nat.lt_or_ge k 64 with z | z
      · exact z
      · exfalso
        have a : 2 ^ 64 ≤ 2 ^ k := Nat.pow_le_pow_right (by omega) z
        have c : 2 ^ k ≤ b ^ k := Nat.pow_le_pow_left h1 k
        have e : B = 2 ^ 64 := rfl
        have := HP.out
        omega
    have HL : Hid (P < B) := hlt
    have hltB : P < 18446744073709551616 := hlt
    clear hlt
    by_cases c1 : (P : Int) ≤ 18446744073709551615 / (b : Int)
    · have hm : P * b < B := by
        have a : P ≤ 18446744073709551615 / b := by
          have z : (18446744073709551615 : Int) / (b : Int) = ((18446744073709551615 / b : Nat) : Int) := by rw [Int.natCast_ediv]; rfl
          rw [z] at c1
          exact Int.ofNat_le.mp c1
        have c := Nat.mul_le_mul_right b a
        have e := Nat.div_mul_le_self 18446744073709551615 b
        unfold B; omega
      have HM : Hid (P * b < B) := hm
      have wr1 : IntKind.u64.wrap ((P : Int) * (b : Int)) = ((P * b : Nat) : Int) := by
        unfold B at hm
        rw [← Int.natCast_mul, IntKind.wrap_u64]; omega
      clear hm
      obtain ⟨Q, hQ⟩ : ∃ Q, P * b = Q := ⟨_, rfl⟩
      have HQ : Hid (P * b = Q) := hQ
      rw [hQ] at wr1
      clear hQ
      go_wp2
      go_round
      case rel => exact ⟨k + 1, Q, by go_num, rfl, by show Q = b ^ (k + 1); rw [Nat.pow_succ, ← HP.out, HQ.out], by omega, by rw [← HQ.out]; exact HM.out⟩
      case measure => simp [intOf]; omega
    · have c1' : decide ((P : Int) ≤ 18446744073709551615 / (b : Int)) = false := by simpa using c1
      have hk1 : 1 ≤ k := by
        rcases Nat.eq_zero_or_pos k with z | z
        · exfalso
          apply c1
          have e1 : P = 1 := by rw [HP.out, z, Nat.pow_zero]
          rw [e1, show (18446744073709551615 : Int) / (b : Int) = ((18446744073709551615 / b : Nat) : Int) by rw [Int.natCast_ediv]; rfl]
          have : 1 ≤ 18446744073709551615 / b := (Nat.le_div_iff_mul_le (by omega)).mpr (by omega)
          omega
        · exact z
      clear c1
      go_wp2
      go_ret2
      exact ⟨k, P, rfl, HP.out, hk1, hk, HL.out, rfl⟩

theorem isBase_yes (b : Nat) (h1 : 2 ≤ b) (h2 : b ≤ 36) (w : World) :
    Calls Tryd.prog 71 #[.int .i64 (b : Int)] w fun e w' => e = .returned (.bool true) ∧ w' = w := by
  have h3 : decide ((b : Int) ≤ 36) = true := by simp; omega
  go_enter Tryd.func71, Tryd.ntmps71
  go_wp2
  go_ret
  exact ⟨rfl, rfl⟩

end Go.Proofs.YtkkgancmodhghaaDoor
