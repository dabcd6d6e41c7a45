/-
  dec.times: a number's digits times a factor of one digit.
-/
import Derived.Test.YtladeppjccfbhaaDoorDecP
namespace Go.Proofs.YtladeppjccfbhaaDoor
open Go.RowKit

/-- What is carried, behind j digits from the right. -/
def ct (s : ByteArray) (f : Nat) : Nat → Nat
  | 0 => 0
  | j + 1 => (ct s f j + (dgt s (s.size - 1 - j) - 48) * f) / 10
/-- The byte at a place of the product, one digit more ahead. -/
def tm (s : ByteArray) (f i : Nat) : Nat := if i = 0 then 48 + ct s f s.size else 48 + (ct s f (s.size - i) + (dgt s (i - 1) - 48) * f) % 10
/-- The product's text. -/
def tmS (s : ByteArray) (f : Nat) : ByteArray := strOfNums ((List.range (s.size + 1)).map fun i => (tm s f i : Int))

theorem ct_le {s : ByteArray} (hd : DG s) {f : Nat} (hf : f ≤ 9) : ∀ j, ct s f j ≤ 8
  | 0 => by unfold ct; omega
  | j + 1 => by
    have h1 := ct_le hd hf j
    have h2 := dgt_in hd (s.size - 1 - j)
    have h3 : (dgt s (s.size - 1 - j) - 48) * f ≤ 9 * 9 := Nat.mul_le_mul (by omega) hf
    unfold ct
    omega
theorem tm_in {s : ByteArray} (hd : DG s) {f : Nat} (hf : f ≤ 9) (i : Nat) : 48 ≤ tm s f i ∧ tm s f i ≤ 57 := by
  unfold tm
  split
  · have := ct_le hd hf s.size; omega
  · omega
theorem tmS_dgt {s : ByteArray} (hd : DG s) {f : Nat} (hf : f ≤ 9) : (tmS s f).size = s.size + 1 ∧ ∀ i, i < s.size + 1 → dgt (tmS s f) i = tm s f i :=
  nums_dgt (tm s f) (s.size + 1) (fun i _ => by have := tm_in hd hf i; omega)

theorem made_brow (w : World) (n : Nat) : BRow (w.alloc (.cells (madeCells #[.int .u8 0] n) 5)) w.heap.size n (fun _ => 0) := by
  have h := World.rowIs_made w (.int .u8 0) n 5
  exact ⟨fun i hi => h.cell hi, fun i _ => h.frozen i⟩

set_option maxRecDepth 100000 in
set_option maxHeartbeats 2000000 in
theorem times_any {s : ByteArray} (hd : DG s) (hl : s.size ≤ 800) {f : Nat} (hf : f ≤ 9) (w : World) :
    Calls Tryd.prog 52 #[.string s, .int .i64 (f : Int)] w fun e w' => e = .returned (.string (tmS s f)) ∧ Below w.heap.size w w' := by
  obtain ⟨n, hn⟩ : ∃ n, n = s.size := ⟨_, rfl⟩
  have hmk := run_make_row' (P := Tryd.prog) 48 5 (.int .u8 0) 1 und_bytes48 info_b8 rfl .i64 .i64 (n + 1) (by omega) (by omega)
  simp only [Int.natCast_add, Int.natCast_one] at hmk
  have wn : IntKind.i64.wrap ((n : Int) + 1) = (n : Int) + 1 := by
    unfold IntKind.wrap
    simp [IntKind.bits, IntKind.signed]
    omega
  have sn : (s.size : Int) = (n : Int) := by omega
  have HD : Hid (DG s) := hd
  have Hf : Hid (f ≤ 9) := hf
  have Hn : Hid (n = s.size ∧ n ≤ 800) := ⟨hn, by omega⟩
  obtain ⟨u, hu⟩ : ∃ u, u = tmS s f := ⟨_, rfl⟩
  rw [← hu]
  have HU : Hid (u = tmS s f) := hu
  clear hd hf hl hu hn
  go_enter Tryd.func52, Tryd.ntmps52
  go_wp2
  go_loopw [6, 15] (fun v6 v15 wr => ∃ (k : Nat) (F : Nat → Nat), v6 = .int .i64 ((ct s f k : Nat) : Int) ∧ v15 = .int .i64 (k : Int) ∧ k ≤ n ∧ BRow wr w.heap.size (n + 1) F ∧ Below w.heap.size w wr ∧ Hid (∀ i, n - k < i → i ≤ n → F i = tm s f i)) (fun _ i _ => n - (intOf i).toNat)
  case atStart => exact ⟨0, fun _ => 0, rfl, rfl, Nat.zero_le _, made_brow _ _, (Below.refl _ _).alloc (Nat.le_refl _) _, fun i a b => absurd a (by omega)⟩
  case round =>
    obtain ⟨k, F, rfl, rfl, hk, R, hb, HF⟩ := hrel
    have HR : Hid (BRow wr w.heap.size (n + 1) F) := R
    have HB : Hid (Below w.heap.size w wr) := hb
    have Hk : Hid (k ≤ n) := hk
    clear R hb hk hmk
    by_cases c1 : k < n
    · obtain ⟨a, ha⟩ : ∃ a, a = n - k := ⟨_, rfl⟩
      obtain ⟨b, hb⟩ : ∃ b, b = n - k - 1 := ⟨_, rfl⟩
      have hn := Hn.out
      have hbs : b < s.size := by omega
      obtain ⟨x, hx⟩ : ∃ x, x = (s[b]'hbs).toNat := ⟨_, rfl⟩
      have ex : dgt s b = x := by rw [dgt_lt hbs, hx]
      have xd := dgt_in HD.out b
      rw [ex] at xd
      obtain ⟨y, hy⟩ : ∃ y, y = x - 48 := ⟨_, rfl⟩
      obtain ⟨g, hg⟩ : ∃ g, g = y * f := ⟨_, rfl⟩
      have g9 : g ≤ 81 := by rw [hg]; exact Nat.mul_le_mul (show y ≤ 9 by omega) Hf.out
      obtain ⟨c, hc⟩ : ∃ c, c = ct s f k := ⟨_, rfl⟩
      have c8 : c ≤ 8 := by rw [hc]; exact ct_le HD.out Hf.out k
      obtain ⟨v, hv⟩ : ∃ v, v = c + g := ⟨_, rfl⟩
      obtain ⟨r, hr⟩ : ∃ r, r = v % 10 := ⟨_, rfl⟩
      obtain ⟨q, hq⟩ : ∃ q, q = v / 10 := ⟨_, rfl⟩
      obtain ⟨d, hdd⟩ : ∃ d, d = 48 + r := ⟨_, rfl⟩
      have HQ : Hid (q = ct s f (k + 1)) := by
        show q = ct s f (k + 1)
        unfold ct
        rw [show s.size - 1 - k = b by omega, ex, ← hy, ← hg, ← hc, ← hv, hq]
      have HT : Hid (d = tm s f a) := by
        show d = tm s f a
        unfold tm
        rw [if_neg (by omega), show s.size - a = k by omega, show a - 1 = b by omega, ex, ← hy, ← hg, ← hc, ← hv, hdd, hr]
      have e0 : IntKind.i64.wrap ((n : Int) - (k : Int)) = (a : Int) := by
        unfold IntKind.wrap
        simp [IntKind.bits, IntKind.signed]
        omega
      have e0' : IntKind.i64.wrap ((a : Int) - 1) = (b : Int) := by
        unfold IntKind.wrap
        simp [IntKind.bits, IntKind.signed]
        omega
      have e1 : IntKind.u8.wrap ((((s[b]'hbs).toNat : Nat) : Int) - 48) = (y : Int) := by
        rw [← hx]
        unfold IntKind.wrap
        simp [IntKind.bits, IntKind.signed]
        omega
      have e2 : IntKind.i64.wrap (y : Int) = (y : Int) := by
        unfold IntKind.wrap
        simp [IntKind.bits, IntKind.signed]
        omega
      have e3 : IntKind.i64.wrap ((y : Int) * (f : Int)) = (g : Int) := by
        rw [← Int.natCast_mul, ← hg]
        unfold IntKind.wrap
        simp [IntKind.bits, IntKind.signed]
        omega
      have e4 : IntKind.i64.wrap ((c : Int) + (g : Int)) = (v : Int) := by
        unfold IntKind.wrap
        simp [IntKind.bits, IntKind.signed]
        omega
      have e5 : (v : Int).tmod 10 = (r : Int) := by rw [Int.tmod_eq_emod_of_nonneg (by omega)]; omega
      have e5' : (v : Int) % 10 = (r : Int) := by omega
      have e6 : IntKind.u8.wrap (r : Int) = (r : Int) := by
        unfold IntKind.wrap
        simp [IntKind.bits, IntKind.signed]
        omega
      have e7 : IntKind.u8.wrap (48 + (r : Int)) = (d : Int) := by
        unfold IntKind.wrap
        simp [IntKind.bits, IntKind.signed]
        omega
      have e8 : (v : Int) / 10 = (q : Int) := by omega
      have e9 : IntKind.i64.wrap (q : Int) = (q : Int) := by
        unfold IntKind.wrap
        simp [IntKind.bits, IntKind.signed]
        omega
      have ek : IntKind.i64.wrap ((k : Int) + 1) = (k : Int) + 1 := by
        unfold IntKind.wrap
        simp [IntKind.bits, IntKind.signed]
        omega
      have i0 : (k : Int) < (n : Int) := by omega
      have i1 : (0 : Int) ≤ (a : Int) := by omega
      have i2 : (a : Int) < (n : Int) + 1 := by omega
      have i3 : (0 : Int) ≤ (b : Int) := by omega
      have i4 : (b : Int) < (s.size : Int) := by omega
      have cc := HR.out.cell a (by omega)
      have cf := HR.out.fr a (by omega)
      have HA : Hid (a = n - k ∧ k < n) := ⟨ha, c1⟩
      rw [← hc]
      clear ha hb hn hx ex xd hy hg g9 hc c8 hv hr hq hdd c1
      go_wp2
      go_roundw
      case rel =>
        refine ⟨k + 1, putF F a d, by rw [← HQ.out], by go_num, by have := HA.out; omega, HR.out.set (by have := HA.out; omega) d, HB.out.setCell (Nat.le_refl _) _, fun i h1 h2 => ?_⟩
        unfold putF
        by_cases z : i = a
        · rw [if_pos z, z]; exact HT.out
        · rw [if_neg z]; exact HF.out i (by have := HA.out; omega) h2
      case measure => have := HA.out; simp [intOf]; omega
    · obtain rfl : k = n := by have := Hk.out; omega
      obtain ⟨c, hc⟩ : ∃ c, c = ct s f k := ⟨_, rfl⟩
      have c8 : c ≤ 8 := by rw [hc]; exact ct_le HD.out Hf.out k
      obtain ⟨d, hdd⟩ : ∃ d, d = 48 + c := ⟨_, rfl⟩
      have e6 : IntKind.u8.wrap (c : Int) = (c : Int) := by
        unfold IntKind.wrap
        simp [IntKind.bits, IntKind.signed]
        omega
      have e7 : IntKind.u8.wrap (48 + (c : Int)) = (d : Int) := by
        unfold IntKind.wrap
        simp [IntKind.bits, IntKind.signed]
        omega
      have cc := HR.out.cell 0 (by omega)
      have cf := HR.out.fr 0 (by omega)
      have R2 := HR.out.set (i := 0) (by omega) d
      have hcv : (Go.convert 48 9 (.slice (some ⟨w.heap.size, 0, none⟩) (k + 1) (k + 1))).run Tryd.prog (wr.setCell ⟨w.heap.size, 0, none⟩ (.int .u8 (d : Int))) = .ok (.string u) (wr.setCell ⟨w.heap.size, 0, none⟩ (.int .u8 (d : Int))) := by
        have hs := Hn.out.1
        rw [HU.out]
        unfold tmS
        rw [← hs]
        refine run_convert_bytes_arg _ 48 5 und_bytes48 und_u8b w.heap.size 0 (k + 1) (k + 1) _ (by simp) ?_ 9 und_str9b
        intro i hi
        have q := R2.cell i hi
        rw [Nat.zero_add, q]
        have e : putF F 0 d i = tm s f i := by
          unfold putF
          by_cases z : i = 0
          · rw [if_pos z, z]; unfold tm; rw [if_pos rfl, hdd, hc, ← hs]
          · rw [if_neg z]; exact HF.out i (by omega) (by omega)
        rw [e]
        simp [List.getD_eq_getElem?_getD, hi]
      have i1 : (0 : Int) < (k : Int) + 1 := by omega
      rw [← hc]
      clear hc c8 hdd c1 R2
      go_wp2
      go_ret
      exact ⟨rfl, HB.out.setCell (Nat.le_refl _) _⟩

end Go.Proofs.YtladeppjccfbhaaDoor
