/-
  bits' room and lay over a shape, at both sizes.
-/
import Derived.Test.YtealnajogkeckaaDoorBtB
import Derived.Test.YtealnajogkeckaaDoorLen
namespace Go.Proofs.YtealnajogkeckaaDoor
open Go.RowKit

set_option maxRecDepth 100000 in
set_option maxHeartbeats 1000000 in
theorem room_32 {x p n : Int} (hx : Word x) (hn : blen x = n) (h0 : -9223372036854775808 ≤ p) (h1 : p ≤ 5000) (w : World) : Calls Tryd.prog 116 #[.agg #[.int .u64 2147483648, .int .u64 2139095040, .int .i64 23, .int .i64 (-149)], .int .u64 x, .int .i64 p] w fun e w' => e = .returned (.int .i64 (min (24 - n) (p + 149))) ∧ Below w.heap.size w w' := by
  have HL := fun W => len64_any x hx W
  rw [hn] at HL
  have b := blen_01 x hx.1 hx.2
  rw [hn] at b
  obtain ⟨n0, n1⟩ := b
  clear hn hx
  obtain ⟨R, hR⟩ : ∃ R, R = min (24 - n) (p + 149) := ⟨_, rfl⟩
  have i1 : IntKind.i64.wrap (p + 149) = p + 149 := IntWalk.i64_in _ ⟨by omega, by omega⟩
  have i2 : IntKind.i64.wrap 24 = 24 := by decide
  have i3 : IntKind.i64.wrap (24 - n) = 24 - n := IntWalk.i64_in _ ⟨by omega, by omega⟩
  have E : (if IntKind.i64.wrap (p + 149) < IntKind.i64.wrap (IntKind.i64.wrap 24 - n) then IntKind.i64.wrap (p + 149) else IntKind.i64.wrap (IntKind.i64.wrap 24 - n)) = R := by
    rw [i2, i1, i3, hR]
    split <;> omega
  rw [← hR]
  clear i1 i2 i3 hR h0 h1 n0 n1
  go_enter Tryd.func116, Tryd.ntmps116
  go_wp2
  go_region_held3 (fun w' => w'.cell? ⟨w.heap.size, 0, none⟩ = some (.int .u64 2147483648) ∧ w'.cell? ⟨w.heap.size, 1, none⟩ = some (.int .u64 2139095040) ∧ w'.cell? ⟨w.heap.size, 2, none⟩ = some (.int .i64 23) ∧ w'.cell? ⟨w.heap.size, 3, none⟩ = some (.int .i64 (-149))) (simp [*, go_sem])
    (first
      | (go_at_call 60; refine (HL _).mono ?_; rintro x1 w2 ⟨rfl, hh⟩; subst hh))
  go_wp2
  go_ret
  exact ⟨rfl, ((Below.refl _ _).alloc (Nat.le_refl _) _).drew⟩
set_option maxRecDepth 100000 in
set_option maxHeartbeats 1000000 in
theorem lay_32 {x k : Nat} {p : Int} (hp : p = (-149) + (k : Int)) (hk : k ≤ 255) (hx : x ≤ 16777216) (w : World) : Calls Tryd.prog 117 #[.agg #[.int .u64 2147483648, .int .u64 2139095040, .int .i64 23, .int .i64 (-149)], .int .u64 (x : Int), .int .i64 p] w fun e w' => e = .returned (.int .u64 ((k * 8388608 + x : Nat) : Int)) ∧ Below w.heap.size w w' := by
  have e1 : p + 149 = (k : Int) := by omega
  have e2 : ((k : Int) * 8388608) + (x : Int) = ((k * 8388608 + x : Nat) : Int) := by omega
  obtain ⟨Z, hZ⟩ : ∃ Z, Z = k * 8388608 + x := ⟨_, rfl⟩
  rw [← hZ] at e2 ⊢
  have hz : Z < 18446744073709551616 := by omega
  clear hZ hp
  go_enter Tryd.func117, Tryd.ntmps117
  go_wp2
  go_ret
  exact ⟨rfl, (Below.refl _ _).alloc (Nat.le_refl _) _⟩
set_option maxRecDepth 100000 in
set_option maxHeartbeats 1000000 in
theorem room_64 {x p n : Int} (hx : Word x) (hn : blen x = n) (h0 : -9223372036854775808 ≤ p) (h1 : p ≤ 5000) (w : World) : Calls Tryd.prog 116 #[.agg #[.int .u64 9223372036854775808, .int .u64 9218868437227405312, .int .i64 52, .int .i64 (-1074)], .int .u64 x, .int .i64 p] w fun e w' => e = .returned (.int .i64 (min (53 - n) (p + 1074))) ∧ Below w.heap.size w w' := by
  have HL := fun W => len64_any x hx W
  rw [hn] at HL
  have b := blen_01 x hx.1 hx.2
  rw [hn] at b
  obtain ⟨n0, n1⟩ := b
  clear hn hx
  obtain ⟨R, hR⟩ : ∃ R, R = min (53 - n) (p + 1074) := ⟨_, rfl⟩
  have i1 : IntKind.i64.wrap (p + 1074) = p + 1074 := IntWalk.i64_in _ ⟨by omega, by omega⟩
  have i2 : IntKind.i64.wrap 53 = 53 := by decide
  have i3 : IntKind.i64.wrap (53 - n) = 53 - n := IntWalk.i64_in _ ⟨by omega, by omega⟩
  have E : (if IntKind.i64.wrap (p + 1074) < IntKind.i64.wrap (IntKind.i64.wrap 53 - n) then IntKind.i64.wrap (p + 1074) else IntKind.i64.wrap (IntKind.i64.wrap 53 - n)) = R := by
    rw [i2, i1, i3, hR]
    split <;> omega
  rw [← hR]
  clear i1 i2 i3 hR h0 h1 n0 n1
  go_enter Tryd.func116, Tryd.ntmps116
  go_wp2
  go_region_held3 (fun w' => w'.cell? ⟨w.heap.size, 0, none⟩ = some (.int .u64 9223372036854775808) ∧ w'.cell? ⟨w.heap.size, 1, none⟩ = some (.int .u64 9218868437227405312) ∧ w'.cell? ⟨w.heap.size, 2, none⟩ = some (.int .i64 52) ∧ w'.cell? ⟨w.heap.size, 3, none⟩ = some (.int .i64 (-1074))) (simp [*, go_sem])
    (first
      | (go_at_call 60; refine (HL _).mono ?_; rintro x1 w2 ⟨rfl, hh⟩; subst hh))
  go_wp2
  go_ret
  exact ⟨rfl, ((Below.refl _ _).alloc (Nat.le_refl _) _).drew⟩
set_option maxRecDepth 100000 in
set_option maxHeartbeats 1000000 in
theorem lay_64 {x k : Nat} {p : Int} (hp : p = (-1074) + (k : Int)) (hk : k ≤ 2047) (hx : x ≤ 9007199254740992) (w : World) : Calls Tryd.prog 117 #[.agg #[.int .u64 9223372036854775808, .int .u64 9218868437227405312, .int .i64 52, .int .i64 (-1074)], .int .u64 (x : Int), .int .i64 p] w fun e w' => e = .returned (.int .u64 ((k * 4503599627370496 + x : Nat) : Int)) ∧ Below w.heap.size w w' := by
  have e1 : p + 1074 = (k : Int) := by omega
  have e2 : ((k : Int) * 4503599627370496) + (x : Int) = ((k * 4503599627370496 + x : Nat) : Int) := by omega
  obtain ⟨Z, hZ⟩ : ∃ Z, Z = k * 4503599627370496 + x := ⟨_, rfl⟩
  rw [← hZ] at e2 ⊢
  have hz : Z < 18446744073709551616 := by omega
  clear hZ hp
  go_enter Tryd.func117, Tryd.ntmps117
  go_wp2
  go_ret
  exact ⟨rfl, (Below.refl _ _).alloc (Nat.le_refl _) _⟩
end Go.Proofs.YtealnajogkeckaaDoor
