/-
  A number's digits: uints' digitsOf: what it answers for every number and base.
-/
import Derived.Test.YtoabdoognadijaaDoorUiA
import Derived.Laws.BytesArg
import Derived.Deep.DeepMust
namespace Go.Proofs.YtoabdoognadijaaDoor
open Go.RowKit

theorem rm_size (w : World) : (sizeOf (Tryd.prog.elem 140)).run Tryd.prog w = .ok 1 w := by kernel_rfl
theorem rm_len : Tryd.prog.arrayLen 140 = 64 := by kernel_rfl
theorem rm_und : Tryd.prog.underlying 140 = some (.array (Tryd.prog.arrayLen 140) (Tryd.prog.elem 140)) := by kernel_rfl
theorem rm_bytes : Tryd.prog.underlying 143 = some (.slice 5) := by kernel_rfl
theorem rm_byte : Tryd.prog.underlying 5 = some (.int .u8) := by kernel_rfl
theorem rm_string : Tryd.prog.underlying 9 = some .string := by kernel_rfl

/-- The room of digits holds these at its end. -/
structure RInv (N : Nat) (w wr : World) (o : List UInt8) : Prop where
  fz : ∀ j, wr.frozen? ⟨N, j, none⟩ = false
  cells : ∀ j, j < 64 → (wr.cell? ⟨N, j, none⟩).isSome = true
  digs : ∀ j (h : j < o.length), wr.cell? ⟨N, 64 - o.length + j, none⟩ = some (.int .u8 ((o[j]'h).toNat : Int))
  below : Below N w wr
  size : N + 1 ≤ wr.heap.size
theorem RInv.init {w : World} (c : Array Value) (t : TypeId) (hc : c.size = 64) : RInv w.heap.size w (w.alloc (.cells c t)) [] := by
  refine ⟨fun j => World.frozen?_alloc_at _ _ _ _ rfl, fun j hj => ?_, fun j h => absurd h (by simp), (Below.refl _ _).alloc (Nat.le_refl _) _, by simp⟩
  rw [World.cell?_alloc_at _ _ _ _ rfl]
  simp [hc, hj]
theorem RInv.step {N : Nat} {w wr : World} {o : List UInt8} (I : RInv N w wr o) (c : UInt8) {k : Nat} (hk : k + 1 + o.length = 64) : RInv N w (wr.setCell ⟨N, k, none⟩ (.int .u8 (c.toNat : Int))) (c :: o) := by
  have same : (wr.setCell ⟨N, k, none⟩ (.int .u8 (c.toNat : Int))).cell? ⟨N, k, none⟩ = some (.int .u8 (c.toNat : Int)) := World.cell?_setCell_same' _ _ _ (I.cells k (by omega))
  have other : ∀ j, j ≠ k → (wr.setCell ⟨N, k, none⟩ (.int .u8 (c.toNat : Int))).cell? ⟨N, j, none⟩ = wr.cell? ⟨N, j, none⟩ := fun j hj => World.cell?_setCell_other _ _ _ _ (by rintro ⟨⟩; exact hj rfl)
  refine ⟨fun j => by rw [World.frozen?_setCell]; exact I.fz j, fun j hj => ?_, fun j h => ?_, I.below.setCell (Nat.le_refl _) _, by rw [World.size_setCell]; exact I.size⟩
  · by_cases e : j = k
    · subst e; rw [same]; rfl
    · rw [other j e]; exact I.cells j hj
  · cases j with
    | zero =>
      rw [show 64 - (c :: o).length + 0 = k by simp; omega, same]; rfl
    | succ j =>
      have hj : j < o.length := by simpa using h
      rw [show 64 - (c :: o).length + (j + 1) = 64 - o.length + j by simp; omega, other _ (by omega), I.digs j hj]; rfl
theorem str_nums (o : List UInt8) : strOfNums (o.map fun c => (c.toNat : Int)) = ⟨o.toArray⟩ := by
  unfold strOfNums
  have e : ((fun n : Int => UInt8.ofNat n.toNat) ∘ fun c : UInt8 => (c.toNat : Int)) = id := by funext c; simp
  rw [List.map_map, e, List.map_id]
/-- The array, cut from a place on. -/
theorem room_at (N k : Nat) (hk : k < 64) (w : World) :
    (Instr.sliceAt 140 (.pointer (some ⟨N, 0, none⟩)) (some (.int .i64 (k : Int))) none none).run Tryd.prog w = .ok (.slice (some ⟨N, k, none⟩) (64 - k) (64 - k)) w := by
  rw [run_sliceAt_array_l w 140 _ rm_und .i64 _ (by omega) (by rw [rm_len]; omega), rm_size, rm_len]
  simp only [Result.andThen, slicedAt, Int.toNat_natCast]
  rw [if_neg (by omega)]
  simp [Addr.add]
  omega
/-- The bytes that are laid, as a text. -/
theorem room_text {N : Nat} {w wr : World} {o : List UInt8} (I : RInv N w wr o) {k : Nat} (hk : k + o.length = 64) :
    (convert 143 9 (.slice (some ⟨N, k, none⟩) (64 - k) (64 - k))).run Tryd.prog wr = .ok (.string ⟨o.toArray⟩) wr := by
  rw [← str_nums o, show 64 - k = o.length by omega]
  refine run_convert_bytes_arg wr 143 5 rm_bytes rm_byte N k o.length o.length (o.map fun c => (c.toNat : Int)) (by simp) ?_ 9 rm_string
  intro i hi
  rw [List.getD_eq_getElem?_getD, List.getElem?_map, List.getElem?_eq_getElem hi]
  have := I.digs i hi
  rw [show 64 - o.length + i = k + i by omega] at this
  exact this

set_option maxRecDepth 100000 in
set_option maxHeartbeats 1000000 in
theorem digitsOf_any (V b : Nat) (hV : V < 18446744073709551616) (h1 : 2 ≤ b) (h2 : b ≤ 36) (w : World) :
    Calls Tryd.prog 61 #[.int .u64 (V : Int), .int .i64 (b : Int)] w fun e w' => e = .returned (.string ⟨(fl b V).toArray⟩) ∧ Below w.heap.size w w' := by
  have u1 : IntKind.u64.wrap (b : Int) = (b : Int) := by rw [IntKind.wrap_u64]; omega
  have d0 : ((b : Int) == 0) = false := beq_eq_false_iff_ne.mpr (by omega)
  have DG : ∀ (d : Nat) (_ : d < 36) (W : World), Calls Tryd.prog 85 #[.int .i64 (d : Int)] W fun e w' => e = .returned (.tuple #[.int .u8 ((dg8 d).toNat : Int), .bool true]) ∧ w' = W := by
    intro d hd W
    have G := digit_any (d : Int) W
    rw [show gN (d : Int) = ((dg8 d).toNat : Int) by unfold gN; rw [if_pos (by omega), dg8_nat hd]; rfl, show gB (d : Int) = true from decide_eq_true (by omega)] at G
    exact G
  have H64 : Hid ((fl b V).length ≤ 64) := fl_le64 h1 hV
  go_enter Tryd.func61, Tryd.ntmps61
  go_wp2
  go_loopw [0, 6] (fun vv f wr => ∃ (o : List UInt8) (y k : Nat), vv = .int .u64 (y : Int) ∧ f = .int .i64 (k : Int) ∧ y < 18446744073709551616 ∧ k + 1 + o.length = 64 ∧ Hid (fl b V = fl b y ++ o ∧ RInv w.heap.size w wr o)) (fun vv _ _ => (intOf vv).toNat)
  case atStart => exact ⟨[], V, 63, rfl, rfl, hV, rfl, ⟨by simp, RInv.init _ _ (by decide)⟩⟩
  case round =>
    clear hV
    obtain ⟨o, y, k, rfl, rfl, hy, hk, HI⟩ := hrel
    obtain ⟨ov, hcl⟩ : ∃ v, wr.cell? ⟨w.heap.size, k, none⟩ = some v := Option.isSome_iff_exists.mp (HI.out.2.cells k (by omega))
    have hfz := HI.out.2.fz k
    by_cases c : b ≤ y
    · have hd : y % b < b := Nat.mod_lt _ (by omega)
      have hr : (y : Int) % (b : Int) = ((y % b : Nat) : Int) := by rw [Int.natCast_emod]
      have hr' : (y : Int).tmod (b : Int) = ((y % b : Nat) : Int) := by rw [Int.tmod_eq_emod_of_nonneg (by omega), hr]
      have hq : (y : Int) / (b : Int) = ((y / b : Nat) : Int) := by rw [Int.natCast_ediv]
      have hsm : y / b < y := Nat.div_lt_self (by omega) (by omega)
      have HF : Hid (fl b V = fl b (y / b) ++ (dg8 (y % b) :: o)) := by
        show _ = _
        rw [HI.out.1, fl_big h1 c]; simp
      have HL : Hid (o.length + 2 ≤ 64) := by
        have a1 := H64.out
        have a2 := fl_pos b (y / b)
        rw [HF.out] at a1
        simp at a1
        show _ ≤ _
        omega
      have HR := HI.out.2.step (dg8 (y % b)) hk
      have HR' : Hid (RInv w.heap.size w (wr.setCell ⟨w.heap.size, k, none⟩ (.int .u8 ((dg8 (y % b)).toNat : Int))) (dg8 (y % b) :: o)) := HR
      clear HR
      have G := DG (y % b) (by omega)
      generalize y / b = z at *
      have c' : (b : Int) ≤ (y : Int) := by omega
      have z1 : IntKind.u64.wrap (z : Int) = (z : Int) := by rw [IntKind.wrap_u64]; omega
      have x0 : IntKind.u64.wrap ((y % b : Nat) : Int) = ((y % b : Nat) : Int) := by rw [IntKind.wrap_u64]; omega
      have x1 : IntKind.i64.wrap ((y % b : Nat) : Int) = ((y % b : Nat) : Int) := by rw [IntKind.wrap_i64]; omega
      generalize y % b = d at *
      have k0 : 1 ≤ k := by have := HL.out; omega
      clear HI DG H64
      go_wp2_with fail
      refine (G _).mono ?_
      rintro e wr ⟨rfl, rfl⟩
      go_wp2
      go_roundw
      case rel => exact ⟨dg8 d :: o, z, k - 1, by go_num, by go_num, by omega, by simp; omega, ⟨HF.out, HR'.out⟩⟩
      case measure => simp [intOf] <;> omega
    · have G := DG y (by omega)
      have HF : Hid (fl b V = dg8 y :: o) := by
        show _ = _
        rw [HI.out.1, fl_small (by omega)]; rfl
      have HR := HI.out.2.step (dg8 y) hk
      have hsl := room_at w.heap.size k (by omega)
      have htx := room_text HR (k := k) (by simp; omega)
      have HB : Hid (Below w.heap.size w (wr.setCell ⟨w.heap.size, k, none⟩ (.int .u8 ((dg8 y).toNat : Int)))) := HR.below
      rw [← HF.out] at htx
      have c' : ¬ (b : Int) ≤ (y : Int) := by omega
      have x1 : IntKind.i64.wrap (y : Int) = (y : Int) := by rw [IntKind.wrap_i64]; omega
      clear HI DG H64 HR HF c
      go_wp2_with fail
      refine (G _).mono ?_
      rintro e wr ⟨rfl, rfl⟩
      go_wp2
      go_ret
      exact ⟨rfl, HB.out⟩
end Go.Proofs.YtoabdoognadijaaDoor
