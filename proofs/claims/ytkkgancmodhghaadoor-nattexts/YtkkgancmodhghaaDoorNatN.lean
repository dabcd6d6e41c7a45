/-
  What a call of nat.appendLowest leaves behind a text that the call owns: so many digits more, the lowest first.
-/
import Derived.Test.YtkkgancmodhghaaDoorNatL
namespace Go.Proofs.YtkkgancmodhghaaDoor
open Go.RowKit

/-- A digit's byte. -/
def ch (d : Nat) : Nat := if d < 10 then 48 + d else 87 + d
def chV (xs : List Nat) : List Value := xs.map fun d => Value.int .u8 ((ch d : Nat) : Int)
/-- The lowest digits, the lowest first. -/
def lows (b x k : Nat) : List Nat := (List.range k).map fun j => x / b ^ j % b
theorem lows_succ (b x k : Nat) : lows b x (k + 1) = lows b x k ++ [x / b ^ k % b] := by unfold lows; rw [List.range_succ, List.map_append]; rfl
theorem lows_len (b x k : Nat) : (lows b x k).length = k := by simp [lows]

theorem ch_at {r : Nat} (h : r < 36) : ∀ hh, ((⟨#[48, 49, 50, 51, 52, 53, 54, 55, 56, 57, 97, 98, 99, 100, 101, 102, 103, 104, 105, 106, 107, 108, 109, 110, 111, 112, 113, 114, 115, 116, 117, 118, 119, 120, 121, 122]⟩ : ByteArray)[r]'hh).toNat = ch r := by
  have key : ∀ r : Fin 36, ((⟨#[48, 49, 50, 51, 52, 53, 54, 55, 56, 57, 97, 98, 99, 100, 101, 102, 103, 104, 105, 106, 107, 108, 109, 110, 111, 112, 113, 114, 115, 116, 117, 118, 119, 120, 121, 122]⟩ : ByteArray)[r.val]'r.isLt).toNat = ch r.val := by decide
  intro hh
  exact key ⟨r, h⟩
theorem chV_append (xs ys : List Nat) : chV (xs ++ ys) = chV xs ++ chV ys := by unfold chV; rw [List.map_append]

theorem und_text : Tryd.prog.underlying 105 = some (.slice 5) := by kernel_rfl
theorem info_u8 : (Tryd.prog.info? 5).map (fun i => (i.zero, i.size, i.bytes)) = some (some (.int .u8 0), 1, 1) := by kernel_rfl

set_option maxRecDepth 100000 in
set_option maxHeartbeats 2000000 in
theorem lowest_any {w : World} {base n : Nat} {tv : Value} {xs : List Nat} (ho : w.ownsRow base 5 1 tv n (chV xs)) (hb : base ≤ w.heap.size) (x : Nat) (hx : x < B) (k : Nat) (hk : k ≤ 64) (hn : n ≤ 100000) (b : Nat) (h1 : 2 ≤ b) (h2 : b ≤ 36) :
    Calls Tryd.prog 73 #[tv, .int .u64 (x : Int), .int .i64 (k : Int), .int .i64 (b : Int)] w fun e w' => ∃ v', e = .returned v' ∧ w'.ownsRow base 5 1 v' (n + k) (chV (xs ++ lows b x k)) ∧ Below base w w' := by
  obtain ⟨i0, hi, hz0, hz1, hz2⟩ := info_parts info_u8
  go_enter Tryd.func73, Tryd.ntmps73
  go_wp2
  go_loopw [0, 1, 10] (fun v y i wr => ∃ j z : Nat, y = .int .u64 (z : Int) ∧ i = .int .i64 (j : Int) ∧ Hid (z = x / b ^ j) ∧ j ≤ k ∧ z < B ∧ wr.ownsRow base 5 1 v (n + j) (chV (xs ++ lows b x j)) ∧ Below base w wr) (fun _ _ i _ => k - (intOf i).toNat)
  case atStart => exact ⟨0, x, rfl, rfl, by show x = x / b ^ 0; rw [Nat.pow_zero, Nat.div_one], Nat.zero_le _, hx, by rw [show lows b x 0 = [] from rfl, List.append_nil]; exact ho, Below.refl _ _⟩
  case round =>
    obtain ⟨j, z, rfl, rfl, HZ, hj, hzB, hown, hbl⟩ := hrel
    have hsz := hbl.size
    by_cases c1 : j < k
    · have m1 : (z : Int) % (b : Int) = ((z % b : Nat) : Int) := by rw [Int.natCast_emod]
      have m2 : (z : Int) / (b : Int) = ((z / b : Nat) : Int) := by rw [Int.natCast_ediv]
      have hr : z % b < 36 := Nat.lt_of_lt_of_le (Nat.mod_lt _ (by omega)) h2
      have HQ : Hid (z / b = x / b ^ (j + 1) ∧ z % b = x / b ^ j % b ∧ z / b < B) := ⟨by rw [HZ.out, Nat.div_div_eq_div_mul, Nat.pow_succ], by rw [HZ.out], Nat.lt_of_le_of_lt (Nat.div_le_self _ _) hzB⟩
      generalize z % b = r at *
      generalize z / b = q at *
      unfold B at hzB
      have hc := ch_at hr
      obtain ⟨cr, hcr⟩ : ∃ c, ch r = c := ⟨_, rfl⟩
      rw [hcr] at hc
      have HC : Hid (ch r = cr) := hcr
      have HO : Hid (wr.ownsRow base 5 1 _ (n + j) (chV (xs ++ lows b x j)) ∧ Below base w wr) := ⟨hown, hbl⟩
      clear hcr
      go_wp2_with (first
        | (at_builtin; refine wpList_append_own _ rfl _ _ 105 rfl base 5 i0 (.int .u8 0) 1 1 und_text hi hz0 hz1 hz2 rfl (by decide) _ _ _ rfl (hown.alloc _) ⟨wr.heap.size, 0, none⟩ 1 1 [.int .u8 (cr : Int)] rfl rfl ?c1 ?c2 ?c3 ?c4 ?c5 ?_)
        | go_in)
      case c2 => rfl
      case c3 => unfold maxLen; omega
      case c4 => omega
      case c5 => omega
      intro v' w3 hown' hgrow hnil
      have hb3 : Below base w w3 := (hbl.alloc (by omega) _).grown hgrow (by rw [World.size_alloc]; omega) (fun q hq => (hown.lt q hq).1)
      have HO3 : Hid (w3.ownsRow base 5 1 v' (n + j + 1) (chV (xs ++ lows b x j) ++ [.int .u8 (cr : Int)]) ∧ Below base w w3) := ⟨hown', hb3⟩
      clear hown' hb3 hgrow hnil hown hbl
      go_wp2
      go_roundw
      case rel =>
        refine ⟨j + 1, q, by congr 1; rw [IntKind.wrap_u64]; have := HQ.out.2.2; unfold B at this; omega, by go_num, HQ.out.1, by omega, HQ.out.2.2, ?_, HO3.out.2⟩
        rw [lows_succ, ← List.append_assoc, chV_append, ← HQ.out.2.1]
        have e : chV [r] = [.int .u8 (cr : Int)] := by unfold chV; rw [List.map_cons, HC.out]; rfl
        rw [e]
        exact HO3.out.1
      case measure => simp [intOf]; omega
    · obtain rfl : j = k := by omega
      go_wp2
      go_ret
      exact ⟨_, rfl, hown, hbl⟩

end Go.Proofs.YtkkgancmodhghaaDoor
