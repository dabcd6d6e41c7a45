/-
  What bits.Pack and Inf and the document's answers of layer 11 are, as far as layer 15 asks them.
-/
import Derived.Test.YtohbggdkopmpfaaDoorPb3
import Derived.Test.YtohbggdkopmpfaaDoorPb1
namespace Go.Proofs.YtohbggdkopmpfaaDoor
open Go.RowKit

/-- A size, its sign's bit, its infinity's bits, the fraction's bits, the exponents, the least float's exponent. -/
def Fz (s : Int) (g n f T : Nat) (L : Int) : Prop :=
  (s = 32 ∧ g = 2147483648 ∧ n = 2139095040 ∧ f = 23 ∧ T = 255 ∧ L = -149) ∨ (s = 64 ∧ g = 9223372036854775808 ∧ n = 9218868437227405312 ∧ f = 52 ∧ T = 2047 ∧ L = -1074)
/-- A struct of three fields in a block that may be written. -/
structure GrB (W : World) (K : Nat) (a b c : Value) : Prop where
  lt : K < W.heap.size
  a0 : W.cell? ⟨K, 0, none⟩ = some a
  a1 : W.cell? ⟨K, 1, none⟩ = some b
  a2 : W.cell? ⟨K, 2, none⟩ = some c
  f0 : W.frozen? ⟨K, 0, none⟩ = false
  f1 : W.frozen? ⟨K, 1, none⟩ = false
  f2 : W.frozen? ⟨K, 2, none⟩ = false
theorem GrB.step {W W' : World} {K : Nat} {a b c : Value} (h : GrB W K a b c) (hb : Below W.heap.size W W') : GrB W' K a b c := by
  have k := fun o => hb.cell (p := ⟨K, o, none⟩) h.lt
  have j := fun o => hb.frozen (p := ⟨K, o, none⟩) h.lt
  exact ⟨Nat.lt_of_lt_of_le h.lt hb.size, (k 0).trans h.a0, (k 1).trans h.a1, (k 2).trans h.a2, (j 0).trans h.f0, (j 1).trans h.f1, (j 2).trans h.f2⟩
theorem GrB.new (W : World) (a b c : Value) (T : TypeId) : GrB (W.alloc (.cells #[a, b, c] T)) W.heap.size a b c :=
  ⟨by simp, by simp, by simp, by simp, World.frozen?_alloc_new _ _ _ _, World.frozen?_alloc_new _ _ _ _, World.frozen?_alloc_new _ _ _ _⟩
theorem GrB.al {W : World} {K : Nat} {a b c : Value} (h : GrB W K a b c) (o : Obj) : GrB (W.alloc o) K a b c := h.step ((Below.refl _ _).alloc (Nat.le_refl _) _)
theorem inf_z {s : Int} {g n f T : Nat} {L : Int} (h : Fz s g n f T L) (c : Bool) (w : World) : Calls Tryd.prog 43 #[.bool c, .int .i64 s] w fun e w' => e = .returned (.tuple #[.int .u64 ((sgd g c (T * 2 ^ f) : Nat) : Int), .nilIface]) ∧ Below w.heap.size w w' := by
  rcases h with ⟨rfl, rfl, rfl, rfl, rfl, rfl⟩ | ⟨rfl, rfl, rfl, rfl, rfl, rfl⟩
  · exact binf_32 c w
  · exact binf_64 c w
theorem pack_z {s : Int} {g n f T : Nat} {L : Int} (h : Fz s g n f T L) (c : Bool) {m : Nat} {p : Int} (hm : m < 18446744073709551616) (m0 : m ≠ 0) (hp0 : -9223372036854775808 ≤ p) (w : World) (hT : Tab w) : Calls Tryd.prog 42 #[.agg #[.bool c, .int .i64 2, .int .u64 (m : Int), .int .i64 p], .int .i64 s] w fun e w' => e = .returned (match pk f (T : Int) L m p with | some b => .tuple #[.int .u64 ((sgd g c b : Nat) : Int), .nilIface] | none => .tuple #[.int .u64 0, .iface 53 (.int .i64 4)]) ∧ Below w.heap.size w w' := by
  rcases h with ⟨rfl, rfl, rfl, rfl, rfl, rfl⟩ | ⟨rfl, rfl, rfl, rfl, rfl, rfl⟩
  · rw [show (((255 : Nat) : Int)) = 255 from rfl]
    cases h : pk 23 255 (-149) m p with
    | none => exact pk_of_32 w hT fun W hW => pack_none_32 c hm m0 hp0 h W hW
    | some b => exact pk_of_32 w hT fun W hW => pack_some_32 c hm m0 hp0 h W hW
  · rw [show (((2047 : Nat) : Int)) = 2047 from rfl]
    cases h : pk 52 2047 (-1074) m p with
    | none => exact pk_of_64 w hT fun W hW => pack_none_64 c hm m0 hp0 h W hW
    | some b => exact pk_of_64 w hT fun W hW => pack_some_64 c hm m0 hp0 h W hW
theorem rinf_z {s : Int} {g n f T : Nat} {L : Int} (h : Fz s g n f T L) (w : World) : Calls Tryd.prog 26 #[.int .i64 s] w fun e w' => e = .returned (.int .u64 ((T * 2 ^ f : Nat) : Int)) ∧ w' = w := by
  rcases h with ⟨rfl, rfl, rfl, rfl, rfl, rfl⟩ | ⟨rfl, rfl, rfl, rfl, rfl, rfl⟩
  · exact rInf_32 w
  · exact rInf_64 w
theorem rpack_z {s : Int} {g n f T : Nat} {L : Int} (h : Fz s g n f T L) (c : Bool) {m : Nat} {p : Int} (hm : m < 18446744073709551616) (m0 : m ≠ 0) (hp : -4000 ≤ p) (w : World) : Calls Tryd.prog 51 #[.agg #[.bool c, .int .i64 2, .int .u64 (m : Int), .int .i64 p], .int .i64 s] w fun e w' => e = .returned (rpV g c (pk f (T : Int) L m p)) ∧ Below w.heap.size w w' := by
  have n0 : ((m : Int) == 0) = false := by simp; omega
  rcases h with ⟨rfl, rfl, rfl, rfl, rfl, rfl⟩ | ⟨rfl, rfl, rfl, rfl, rfl, rfl⟩
  · by_cases q : 4000 < p
    · rw [show (((255 : Nat) : Int)) = 255 from rfl, pk_high (f := 23) (t := 255) (L := (-149)) (by decide) m0 (by omega)]
      exact rpk_far2_32 c n0 (by omega) q w
    · exact rpk_fine_32 c hm m0 (by omega) q w
  · by_cases q : 4000 < p
    · rw [show (((2047 : Nat) : Int)) = 2047 from rfl, pk_high (f := 52) (t := 2047) (L := (-1074)) (by decide) m0 (by omega)]
      exact rpk_far2_64 c n0 (by omega) q w
    · exact rpk_fine_64 c hm m0 (by omega) q w
end Go.Proofs.YtohbggdkopmpfaaDoor
