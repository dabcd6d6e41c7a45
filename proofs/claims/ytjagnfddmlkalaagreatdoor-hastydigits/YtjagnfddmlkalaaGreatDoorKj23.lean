/-
  Holds: VPwF VPgM VPwV VPwP VPgA VPgB VPwD.
-/
import Derived.Test.YtjagnfddmlkalaaGreatDoorRows
import Derived.Laws.Externs
import Derived.WalkKit
import Derived.WalkSpells
import Derived.WalkLawsBesides
import Derived.Lib.Mul64
import Derived.Lib.TrailingZeros
import Derived.Lib.ItoaNum
import Derived.Deep.OwnRows
import Derived.Laws.CopyOwn
import Derived.BigQuiet
import Derived.Deep.RegionHeld3
import Derived.Deep.LoopGhost
import Derived.Deep.AppendLies
import Derived.Test.YtjagnfddmlkalaaGreatDoorKj10
import Derived.Test.YtjagnfddmlkalaaGreatDoorKj22
set_option maxRecDepth 100000
set_option maxHeartbeats 4000000
namespace Go.Proofs.YtjagnfddmlkalaaGreatDoor
open Go.RowKit
structure FlB (W : World) (K : Nat) (a b c d : Value) : Prop where
 lt : K < W.heap.size
 a0 : W.cell? ⟨K, 0, none⟩ = some a
 a1 : W.cell? ⟨K, 1, none⟩ = some b
 a2 : W.cell? ⟨K, 2, none⟩ = some c
 a3 : W.cell? ⟨K, 3, none⟩ = some d
 f0 : W.frozen? ⟨K, 0, none⟩ = false
 f1 : W.frozen? ⟨K, 1, none⟩ = false
 f2 : W.frozen? ⟨K, 2, none⟩ = false
 f3 : W.frozen? ⟨K, 3, none⟩ = false
theorem FlB.step {W W' : World} {K : Nat} {a b c d : Value} (h : FlB W K a b c d) (hb : Below W.heap.size W W') : FlB W' K a b c d := by
 have k := fun o => hb.cell (p := ⟨K, o, none⟩) h.lt
 have j := fun o => hb.frozen (p := ⟨K, o, none⟩) h.lt
 exact ⟨Nat.lt_of_lt_of_le h.lt hb.size, (k 0).trans h.a0, (k 1).trans h.a1, (k 2).trans h.a2, (k 3).trans h.a3, (j 0).trans h.f0, (j 1).trans h.f1, (j 2).trans h.f2, (j 3).trans h.f3⟩
theorem FlB.new (W : World) (a b c d : Value) (T : TypeId) : FlB (W.alloc (.cells #[a, b, c, d] T)) W.heap.size a b c d :=
 ⟨by simp, by simp, by simp, by simp, by simp, World.frozen?_alloc_new _ _ _ _, World.frozen?_alloc_new _ _ _ _, World.frozen?_alloc_new _ _ _ _, World.frozen?_alloc_new _ _ _ _⟩
theorem FlB.newAt (W : World) (a b c d : Value) (T : TypeId) {K : Nat} (h : K = W.heap.size) : FlB (W.alloc (.cells #[a, b, c, d] T)) K a b c d := by
 subst h; exact FlB.new W a b c d T
theorem FlB.drew {W : World} {K : Nat} {a b c d : Value} (h : FlB W K a b c d) : FlB W.drew K a b c d := h.step (Below.refl _ _).drew
theorem FlB.al {W : World} {K : Nat} {a b c d : Value} (h : FlB W K a b c d) (o : Obj) : FlB (W.alloc o) K a b c d := h.step ((Below.refl _ _).alloc (Nat.le_refl _) _)
theorem FlB.far {W : World} {K : Nat} {a b c d : Value} (h : FlB W K a b c d) (p : Addr) (v : Value) (n : K ≠ p.block) : FlB (W.setCell p v) K a b c d := by
 have e : (W.setCell p v).heap[K]? = W.heap[K]? := Below.heap_setCell W p v K n
 have k := fun o => World.cell?_of_block (w := W) (w' := W.setCell p v) (a := ⟨K, o, none⟩) e
 have j := fun o => World.frozen?_of_block (w := W) (w' := W.setCell p v) (a := ⟨K, o, none⟩) e
 have z : K < (W.setCell p v).heap.size := by simpa using h.lt
 exact ⟨z, (k 0).trans h.a0, (k 1).trans h.a1, (k 2).trans h.a2, (k 3).trans h.a3, (j 0).trans h.f0, (j 1).trans h.f1, (j 2).trans h.f2, (j 3).trans h.f3⟩
theorem FlB.set0 {W : World} {K : Nat} {a b c d : Value} (h : FlB W K a b c d) (v : Value) : FlB (W.setCell ⟨K, 0, none⟩ v) K v b c d := by
 obtain ⟨z, a0, a1, a2, a3, f0, f1, f2, f3⟩ := h
 exact ⟨by simpa using z, World.cell?_setCell_same _ _ _ a0, (World.cell?_setCell_other _ ⟨K, 0, none⟩ ⟨K, 1, none⟩ v (by intro e; cases e)).trans a1, (World.cell?_setCell_other _ ⟨K, 0, none⟩ ⟨K, 2, none⟩ v (by intro e; cases e)).trans a2, (World.cell?_setCell_other _ ⟨K, 0, none⟩ ⟨K, 3, none⟩ v (by intro e; cases e)).trans a3, (World.frozen?_setCell ..).trans f0, (World.frozen?_setCell ..).trans f1, (World.frozen?_setCell ..).trans f2, (World.frozen?_setCell ..).trans f3⟩
theorem FlB.set1 {W : World} {K : Nat} {a b c d : Value} (h : FlB W K a b c d) (v : Value) : FlB (W.setCell ⟨K, 1, none⟩ v) K a v c d := by
 obtain ⟨z, a0, a1, a2, a3, f0, f1, f2, f3⟩ := h
 exact ⟨by simpa using z, (World.cell?_setCell_other _ ⟨K, 1, none⟩ ⟨K, 0, none⟩ v (by intro e; cases e)).trans a0, World.cell?_setCell_same _ _ _ a1, (World.cell?_setCell_other _ ⟨K, 1, none⟩ ⟨K, 2, none⟩ v (by intro e; cases e)).trans a2, (World.cell?_setCell_other _ ⟨K, 1, none⟩ ⟨K, 3, none⟩ v (by intro e; cases e)).trans a3, (World.frozen?_setCell ..).trans f0, (World.frozen?_setCell ..).trans f1, (World.frozen?_setCell ..).trans f2, (World.frozen?_setCell ..).trans f3⟩
theorem FlB.set2 {W : World} {K : Nat} {a b c d : Value} (h : FlB W K a b c d) (v : Value) : FlB (W.setCell ⟨K, 2, none⟩ v) K a b v d := by
 obtain ⟨z, a0, a1, a2, a3, f0, f1, f2, f3⟩ := h
 exact ⟨by simpa using z, (World.cell?_setCell_other _ ⟨K, 2, none⟩ ⟨K, 0, none⟩ v (by intro e; cases e)).trans a0, (World.cell?_setCell_other _ ⟨K, 2, none⟩ ⟨K, 1, none⟩ v (by intro e; cases e)).trans a1, World.cell?_setCell_same _ _ _ a2, (World.cell?_setCell_other _ ⟨K, 2, none⟩ ⟨K, 3, none⟩ v (by intro e; cases e)).trans a3, (World.frozen?_setCell ..).trans f0, (World.frozen?_setCell ..).trans f1, (World.frozen?_setCell ..).trans f2, (World.frozen?_setCell ..).trans f3⟩
theorem FlB.set3 {W : World} {K : Nat} {a b c d : Value} (h : FlB W K a b c d) (v : Value) : FlB (W.setCell ⟨K, 3, none⟩ v) K a b c v := by
 obtain ⟨z, a0, a1, a2, a3, f0, f1, f2, f3⟩ := h
 exact ⟨by simpa using z, (World.cell?_setCell_other _ ⟨K, 3, none⟩ ⟨K, 0, none⟩ v (by intro e; cases e)).trans a0, (World.cell?_setCell_other _ ⟨K, 3, none⟩ ⟨K, 1, none⟩ v (by intro e; cases e)).trans a1, (World.cell?_setCell_other _ ⟨K, 3, none⟩ ⟨K, 2, none⟩ v (by intro e; cases e)).trans a2, World.cell?_setCell_same _ _ _ a3, (World.frozen?_setCell ..).trans f0, (World.frozen?_setCell ..).trans f1, (World.frozen?_setCell ..).trans f2, (World.frozen?_setCell ..).trans f3⟩
structure TwB (W : World) (K : Nat) (a b : Value) : Prop where
 lt : K < W.heap.size
 a0 : W.cell? ⟨K, 0, none⟩ = some a
 a1 : W.cell? ⟨K, 1, none⟩ = some b
 f0 : W.frozen? ⟨K, 0, none⟩ = false
 f1 : W.frozen? ⟨K, 1, none⟩ = false
theorem TwB.step {W W' : World} {K : Nat} {a b : Value} (h : TwB W K a b) (hb : Below W.heap.size W W') : TwB W' K a b := by
 have k := fun o => hb.cell (p := ⟨K, o, none⟩) h.lt
 have j := fun o => hb.frozen (p := ⟨K, o, none⟩) h.lt
 exact ⟨Nat.lt_of_lt_of_le h.lt hb.size, (k 0).trans h.a0, (k 1).trans h.a1, (j 0).trans h.f0, (j 1).trans h.f1⟩
theorem TwB.new (W : World) (a b : Value) (T : TypeId) : TwB (W.alloc (.cells #[a, b] T)) W.heap.size a b :=
 ⟨by simp, by simp, by simp, World.frozen?_alloc_new _ _ _ _, World.frozen?_alloc_new _ _ _ _⟩
theorem ldz_nat {X : Nat} (h0 : X ≠ 0) (h : X < 2 ^ 128) : ldz (hiW X) (loW X) = 128 - (bl X : Int) := by
 rw [show 2 ^ 128 = 340282366920938463463374607431768211456 from rfl] at h
 unfold ldz
 by_cases c : hiW X = 0
 · rw [if_pos c]
   unfold hiW at c
   have e : loW X = (X : Int) := by unfold loW; omega
   rw [e]
   obtain ⟨n, e1, e2, e3, e4⟩ := blen_bounds (X : Int) (by omega) (by omega)
   rw [pow_cast] at e3 e4
   rw [e1, bl_of (L := n) (by omega) (by omega)]
   omega
 · rw [if_neg c]
   have w := hiW_word h
   unfold Word at w
   obtain ⟨n, e1, e2, e3, e4⟩ := blen_bounds (hiW X) (by omega) w.2
   rw [pow_cast] at e3 e4
   have a1 : 2 ^ (n + 64) ≤ X := by
    unfold hiW at e3
    rw [Nat.pow_add, show 2 ^ 64 = 18446744073709551616 from rfl]
    generalize 2 ^ n = t at *
    omega
   have a2 : X < 2 ^ (n + 64 + 1) := by
    unfold hiW at e4
    rw [show n + 64 + 1 = n + 1 + 64 from by omega, Nat.pow_add, show 2 ^ 64 = 18446744073709551616 from rfl]
    generalize 2 ^ (n + 1) = t at *
    omega
   rw [e1, bl_of a1 a2]
   omega
theorem bl_div {X D : Nat} (h0 : X ≠ 0) (h : D < bl X) : bl (X / 2 ^ D) = bl X - D := by
 have a := bl_le h0
 have b := bl_lt X
 have p := Nat.two_pow_pos D
 have r : bl (X / 2 ^ D) = (bl X - 1 - D) + 1 := by
  refine bl_of ?_ ?_
  · rw [Nat.le_div_iff_mul_le p, ← Nat.pow_add, show bl X - 1 - D + D = bl X - 1 from by omega]
    exact a
  · rw [Nat.div_lt_iff_lt_mul p, ← Nat.pow_add, show bl X - 1 - D + 1 + D = bl X from by omega]
    exact b
 omega
theorem whole_pw {n ov top room : Nat} (ho : ov = bl (5 ^ n) - 128) (ht : top = 5 ^ n / 2 ^ ov) (hr : room = 128 - bl top) :
 top ≠ 0 ∧ top < 2 ^ 128 ∧ bl top ≤ 128 ∧ top * 2 ^ room < 2 ^ 128 ∧ Pw (n : Int) (top * 2 ^ room) ((n : Int) + ov - room) ∧ (5 ^ n % 2 ^ ov = 0 ↔ ((0 : Int) ≤ n ∧ (n : Int) ≤ 55)) := by
 have x0 : 5 ^ n ≠ 0 := Nat.ne_of_gt (Nat.pow_pos (by omega))
 have bp := bl_pos x0
 have b1 := bl_le x0
 have b2 := bl_lt (5 ^ n)
 have bt : bl top = bl (5 ^ n) - ov := by rw [ht]; exact bl_div x0 (by omega)
 have t0 : top ≠ 0 := by
  intro z
  rw [z, show bl 0 = 0 from rfl] at bt
  omega
 have tl := bl_lt top
 have tg := bl_le t0
 have tb : bl top ≤ 128 := by omega
 have m2 : top * 2 ^ room < 2 ^ 128 := by
  have := Nat.mul_lt_mul_of_pos_right tl (Nat.two_pow_pos room)
  rw [← Nat.pow_add, show bl top + room = 128 from by omega] at this
  exact this
 have m1 : 2 ^ 127 ≤ top * 2 ^ room := by
  have := Nat.mul_le_mul_right (2 ^ room) tg
  have tp := bl_pos t0
  rw [← Nat.pow_add, show bl top - 1 + room = 127 from by omega] at this
  exact this
 refine ⟨t0, Nat.lt_of_lt_of_le tl (Nat.pow_le_pow_right (by omega) tb), tb, m2, ?_⟩
 rcases Nat.eq_zero_or_pos ov with z | z
 · have e : top = 5 ^ n := by rw [ht, z, Nat.pow_zero, Nat.div_one]
   obtain ⟨p, x⟩ := pw_quo (e := (n : Int)) (s := (room : Int)) (M := top * 2 ^ room) (r := 0) m1 m2 (by rw [show (-(n : Int)).toNat = 0 from by omega, show (-(room : Int)).toNat = 0 from by omega]; decide) (by
    rw [Int.toNat_natCast, Int.toNat_natCast, show (-(n : Int)).toNat = 0 from by omega, show (-(room : Int)).toNat = 0 from by omega, e]
    simp only [Nat.pow_zero, Nat.mul_one, Nat.add_zero])
   rw [show (n : Int) + ov - room = (n : Int) - room from by omega]
   refine ⟨p, ?_⟩
   rw [z, Nat.pow_zero, Nat.mod_one, ← pw_exact p, x]
 · have r0 : room = 0 := by omega
   have e : top * 2 ^ room = top := by rw [r0, Nat.pow_zero, Nat.mul_one]
   rw [e] at m1 m2 ⊢
   have dm := Nat.div_add_mod (5 ^ n) (2 ^ ov)
   obtain ⟨p, x⟩ := pw_quo (e := (n : Int)) (s := -(ov : Int)) (M := top) (r := 5 ^ n % 2 ^ ov) m1 m2 (by
    rw [show (-(n : Int)).toNat = 0 from by omega, show (- -(ov : Int)).toNat = ov from by omega, Nat.pow_zero, Nat.one_mul]; exact Nat.mod_lt _ (Nat.two_pow_pos ov)) (by
    rw [Int.toNat_natCast, show (-(n : Int)).toNat = 0 from by omega, show (-(ov : Int)).toNat = 0 from by omega, show (- -(ov : Int)).toNat = ov from by omega]
    simp only [Nat.pow_zero, Nat.one_mul, Nat.mul_one]
    rw [ht, Nat.mul_comm]
    exact dm.symm)
   rw [show (n : Int) + ov - room = (n : Int) - -(ov : Int) from by omega]
   exact ⟨p, by rw [← pw_exact p, x]⟩
theorem fraction_pw {n sh : Nat} (n0 : 0 < n) (hs : sh = 127 + bl (5 ^ n)) : 2 ^ sh / 5 ^ n < 2 ^ 128 ∧ Pw (-(n : Int)) (2 ^ sh / 5 ^ n) (-(n : Int) - sh) := by
 have p5 : 0 < 5 ^ n := Nat.pow_pos (by omega)
 have x0 : 5 ^ n ≠ 0 := by omega
 have bp := bl_pos x0
 have b1 := bl_le x0
 have b2 := bl_lt (5 ^ n)
 have ne : 2 ^ (bl (5 ^ n) - 1) ≠ 5 ^ n := by
  intro q
  have o := two_five (bl (5 ^ n) - 1)
  rw [q, show n = n - 1 + 1 from by omega, Nat.pow_succ] at o
  omega
 have m2 : 2 ^ sh / 5 ^ n < 2 ^ 128 := by
  rw [Nat.div_lt_iff_lt_mul p5, hs, show 127 + bl (5 ^ n) = 128 + (bl (5 ^ n) - 1) from by omega, Nat.pow_add]
  exact Nat.mul_lt_mul_of_pos_left (by omega) (by decide)
 have m1 : 2 ^ 127 ≤ 2 ^ sh / 5 ^ n := by
  rw [Nat.le_div_iff_mul_le p5, hs, Nat.pow_add]
  exact Nat.mul_le_mul_left _ (Nat.le_of_lt b2)
 refine ⟨m2, (pw_quo (e := -(n : Int)) (s := (sh : Int)) (r := 2 ^ sh % 5 ^ n) m1 m2 ?_ ?_).1⟩
 · rw [show (- -(n : Int)).toNat = n from by omega, show (-(sh : Int)).toNat = 0 from by omega, Nat.pow_zero, Nat.mul_one]
   exact Nat.mod_lt _ p5
 · rw [show (- -(n : Int)).toNat = n from by omega, show (-(sh : Int)).toNat = 0 from by omega, show (-(n : Int)).toNat = 0 from by omega, Int.toNat_natCast]
   simp only [Nat.pow_zero, Nat.one_mul, Nat.mul_one]
   rw [Nat.mul_comm]
   exact (Nat.div_add_mod _ _).symm
theorem shl_of {M top room : Nat} (h : M = top * 2 ^ room) (hm : M < 2 ^ 128) (r : Int) (hr : r = room) : shl (val (hiW top) (loW top)) r = M := by
 unfold shl
 rw [val_hl, hr, Int.toNat_natCast, ← h]
 exact Nat.mod_eq_of_lt hm
theorem dnat_one (w : World) : Big.D.NatV (w.alloc (.cells #[.int .u64 1] 22)) (.slice (some ⟨w.heap.size, 0, none⟩) 1 1) 1 := by
 refine ⟨_, 1, 1, w.heap.size, 0, fun i => if i = 0 then 1 else 0, rfl, ⟨Nat.le_refl _, by unfold maxLen; omega, fun _ => rfl, fun _ => by simp, fun i hi => ?_, fun i => ?_⟩, Or.inr (by simp), ?_⟩
 · obtain rfl : i = 0 := by omega
   simp
 · show (if i = 0 then 1 else 0) < Big.B
   split
   · decide
   · decide
 · rw [Big.V_succ, Big.V_zero, Nat.pow_zero]; rfl
theorem dsmall_nat (x : Nat) (hx : x < Big.B) (w : World) :
 Calls Tryz.prog 40 #[.int .u64 (x : Int)] w fun e w' => ∃ v, e = .returned v ∧ Big.D.NatV w' v x ∧ Below w.heap.size w w' := by
 unfold Big.B at hx
 have e1 : (x : Int) % 4294967296 = (x : Int) := by omega
 have e2 : (x : Int) / 4294967296 = 0 := by omega
 have hS : ∀ W : World, Big.D.Sl (W.alloc (.cells #[.int .u64 (x : Int), .int .u64 0] 22)) (some ⟨W.heap.size, 0, none⟩) 2 2 W.heap.size 0 (fun i => if i = 0 then x else 0) := fun W =>
  ⟨Nat.le_refl _, by unfold maxLen; omega, fun _ => rfl, fun _ => by simp, fun i hi => by
   rcases (by omega : i = 0 ∨ i = 1) with rfl | rfl
   · simp
   · simp, fun i => by show (if i = 0 then x else 0) < Big.B; split; exact hx; decide⟩
 have hV : Big.V (fun i => if i = 0 then x else 0) 2 = x := by
  rw [Big.V_succ, Big.V_succ, Big.V_zero, Nat.pow_zero]; simp
 have HS : Hid (∀ W : World, Big.D.Sl (W.alloc (.cells #[.int .u64 (x : Int), .int .u64 0] 22)) (some ⟨W.heap.size, 0, none⟩) 2 2 W.heap.size 0 (fun i => if i = 0 then x else 0)) := hS
 have HV : Hid (Big.V (fun i => if i = 0 then x else 0) 2 = x) := hV
 clear hS hV
 have T := Big.D.trim_any (HS.out w)
 have NV := (HS.out w).trimmed
 rw [HV.out] at NV
 go_enter Tryz.func40, Tryz.ntmps40
 go_wp2_with fail
 refine T.mono ?_
 rintro e wa ⟨rfl, rfl⟩
 go_wp2
 go_ret
 exact ⟨_, rfl, NV, (Below.refl _ _).alloc (Nat.le_refl _) _⟩
theorem dfits_pow {b m : Nat} (hb : b ≤ 16) (hm : m ≤ 2400) : Fits 400 (b ^ m) := by
 have a : b ^ m ≤ 16 ^ m := Nat.pow_le_pow_left hb m
 rw [show 16 = 2 ^ 4 from rfl, ← Nat.pow_mul] at a
 exact (two_fits (s := 4 * m) (k := 400) (by omega)).le a
theorem dpow_any (b n : Nat) (h1 : 2 ≤ b) (h2 : b ≤ 16) (hn : n ≤ 1200) (w : World) :
 Calls Tryz.prog 81 #[.int .u64 (b : Int), .int .i64 (n : Int)] w fun e w' => ∃ v, e = .returned v ∧ Big.D.NatV w' v (b ^ n) ∧ Below w.heap.size w w' := by
 have S2 := fun W => dsmall_nat b (by unfold Big.B; omega) W
 have N1 := dnat_one w
 have bA : Below w.heap.size w (w.alloc (.cells #[.int .u64 1] 22)) := (Below.refl _ _).alloc (Nat.le_refl _) _
 have HB : Hid (2 ≤ b ∧ b ≤ 16 ∧ n ≤ 1200) := ⟨h1, h2, hn⟩
 clear h1 h2
 go_enter Tryz.func81, Tryz.ntmps81
 go_wp2_with fail
 refine (S2 _).mono ?_
 rintro e w2 ⟨v2, rfl, n2, b2⟩
 have N2 : Hid (Big.D.NatV w2 (.slice (some ⟨w.heap.size, 0, none⟩) 1 1) 1 ∧ Big.D.NatV w2 v2 b ∧ Below w.heap.size w w2) := ⟨N1.below b2, n2, bA.trans (b2.mono bA.size)⟩
 clear n2 b2 N1 S2 bA
 go_wp2
 go_loopw [1, 5, 6] (fun nv ov pv wr => ∃ (m i j : Nat), nv = .int .i64 (m : Int) ∧ m ≤ 1200 ∧ Hid (Big.D.NatV wr ov (b ^ i) ∧ Big.D.NatV wr pv (b ^ j) ∧ Below w.heap.size w wr ∧ i + j * m = n)) (fun nv _ _ _ => (intOf nv).toNat)
 case atStart => exact ⟨n, 0, 1, rfl, hn, by rw [Nat.pow_zero, Nat.pow_one]; exact ⟨N2.out.1, N2.out.2.1, N2.out.2.2, by rw [Nat.zero_add, Nat.one_mul]⟩⟩
 case round =>
  clear N2
  obtain ⟨m, i, j, rfl, hm, HI⟩ := hrel
  by_cases m0 : 0 < m
  · obtain ⟨h, hh⟩ : ∃ h, h = m / 2 := ⟨_, rfl⟩
    have jm : j ≤ j * m := Nat.le_mul_of_pos_right j m0
    have e2 : (m : Int) / 2 = (h : Int) := by omega
    have hb64 : h ≤ 1200 := by omega
    have hlt : h < m := by omega
    have FX : Hid (Fits 1000 (b ^ i) ∧ Fits 1000 (b ^ j)) := ⟨(dfits_pow HB.out.2.1 (by have := HI.out.2.2.2; have := HB.out; omega)).up (by omega), (dfits_pow HB.out.2.1 (by have := HI.out.2.2.2; have := HB.out; omega)).up (by omega)⟩
    have an := and_one m (by omega)
    rcases Nat.mod_two_eq_zero_or_one m with odd | odd
    · rw [odd] at an
      have HS : Hid (i + (j + j) * h = n) := by
       have a := HI.out.2.2.2
       rw [show m = 2 * h by omega, Nat.mul_left_comm] at a
       show _ = _
       rw [Nat.add_mul]
       omega
      have T2 := dmul_nat HI.out.2.1 HI.out.2.1 FX.out.2 FX.out.2
      rw [← Nat.pow_add] at T2
      clear odd hh jm
      go_wp2_with fail
      refine T2.mono ?_
      rintro e w4 ⟨v4, rfl, n4, b4⟩
      have N4 : Hid (Big.D.NatV w4 u5 (b ^ i) ∧ Big.D.NatV w4 v4 (b ^ (j + j)) ∧ Below w.heap.size w w4) := ⟨HI.out.1.below b4, n4, HI.out.2.2.1.trans (b4.mono HI.out.2.2.1.size)⟩
      clear n4 b4 T2
      go_wp2
      go_roundw
      case rel => exact ⟨h, i, j + j, by first | rfl | go_num | (rw [e2]), hb64, N4.out.1, N4.out.2.1, N4.out.2.2, HS.out⟩
      case measure => simp [intOf]; omega
    · rw [odd] at an
      have HS : Hid ((i + j) + (j + j) * h = n) := by
       have a := HI.out.2.2.2
       rw [show m = 2 * h + 1 by omega, Nat.mul_add, Nat.mul_one, Nat.mul_left_comm] at a
       show _ = _
       rw [Nat.add_mul]
       omega
      have T1 := dmul_nat HI.out.1 HI.out.2.1 FX.out.1 FX.out.2
      rw [← Nat.pow_add] at T1
      clear odd hh jm
      go_wp2_with fail
      refine T1.mono ?_
      rintro e w3 ⟨v3, rfl, n3, b3⟩
      have N3 : Hid (Big.D.NatV w3 v3 (b ^ (i + j)) ∧ Big.D.NatV w3 u6 (b ^ j) ∧ Below w.heap.size w w3) := ⟨n3, HI.out.2.1.below b3, HI.out.2.2.1.trans (b3.mono HI.out.2.2.1.size)⟩
      clear n3 b3 T1
      have T2 := dmul_nat N3.out.2.1 N3.out.2.1 FX.out.2 FX.out.2
      rw [← Nat.pow_add] at T2
      go_wp2_with fail
      refine T2.mono ?_
      rintro e w4 ⟨v4, rfl, n4, b4⟩
      have N4 : Hid (Big.D.NatV w4 v3 (b ^ (i + j)) ∧ Big.D.NatV w4 v4 (b ^ (j + j)) ∧ Below w.heap.size w w4) := ⟨N3.out.1.below b4, n4, N3.out.2.2.trans (b4.mono N3.out.2.2.size)⟩
      clear n4 b4 T2
      go_wp2
      go_roundw
      case rel => exact ⟨h, i + j, j + j, by first | rfl | go_num | (rw [e2]), hb64, N4.out.1, N4.out.2.1, N4.out.2.2, HS.out⟩
      case measure => simp [intOf]; omega
  · obtain rfl : m = 0 := by omega
    have hin : i = n := by have := HI.out.2.2.2; rw [Nat.mul_zero] at this; omega
    subst hin
    go_wp2
    go_ret
    exact ⟨_, rfl, HI.out.1, HI.out.2.2.1⟩
theorem pow_word {b n k : Nat} (hb : 0 < b) (hk : k ≤ n) (h : b ^ n < 18446744073709551616) : b ^ k < 18446744073709551616 := Nat.lt_of_le_of_lt (Nat.pow_le_pow_right hb hk) h
theorem within_yes (n a b : Int) (h1 : a ≤ n) (h2 : n ≤ b) (w : World) : Calls Tryz.prog 67 #[.int .i64 n, .int .i64 a, .int .i64 b] w fun e w' => e = .returned (.bool true) ∧ w' = w := by
 go_enter Tryz.func67, Tryz.ntmps67
 go_wp2
 go_ret
 exact ⟨rfl, rfl⟩
theorem within_no (n a b : Int) (h : n < a ∨ b < n) (w : World) : Calls Tryz.prog 67 #[.int .i64 n, .int .i64 a, .int .i64 b] w fun e w' => e = .returned (.bool false) ∧ w' = w := by
 by_cases c : a ≤ n
 · have c2 : ¬ n ≤ b := by omega
   go_enter Tryz.func67, Tryz.ntmps67
   go_wp2
   go_ret
   exact ⟨rfl, rfl⟩
 · go_enter Tryz.func67, Tryz.ntmps67
   go_wp2
   go_ret
   exact ⟨rfl, rfl⟩
theorem lenD_yes (n : Int) (h1 : -1100 ≤ n) (h2 : n ≤ 1100) (w : World) : Calls Tryz.prog 66 #[.int .i64 n, .int .i64 1292913986] w fun e w' => e = .returned (.tuple #[.int .i64 (n * 1292913986 / 4294967296 + 1), .nilIface]) ∧ w' = w := by
 have W := fun x => within_yes n (-1100) 1100 h1 h2 x
 go_enter Tryz.func66, Tryz.ntmps66
 go_wp2_with fail
 refine (W _).mono ?_
 rintro e w ⟨rfl, rfl⟩
 go_wp2
 refine bodyPost_ret (v := .tuple #[.int .i64 (n * 1292913986 / 4294967296 + 1), .nilIface]) (by simp [results, Tryz.results66, go_sem]) rfl ⟨rfl, rfl⟩
theorem len_no (n l : Int) (h : n < -1100 ∨ 1100 < n) (w : World) : Calls Tryz.prog 66 #[.int .i64 n, .int .i64 l] w fun e w' => e = .returned (.tuple #[.int .i64 0, errV 1]) ∧ w' = w := by
 have W := fun x => within_no n (-1100) 1100 h x
 go_enter Tryz.func66, Tryz.ntmps66
 go_wp2_with fail
 refine (W _).mono ?_
 rintro e w ⟨rfl, rfl⟩
 go_wp2
 refine bodyPost_ret (v := .tuple #[.int .i64 0, errV 1]) (by simp [results, Tryz.results66, go_sem]; rfl) rfl ⟨rfl, rfl⟩
def lgD (n : Int) : Int := if n < -1100 ∨ 1100 < n then 0 else n * 1292913986 / 4294967296 + 1
def lgE (n : Int) : Nat := if n < -1100 ∨ 1100 < n then 1 else 0
theorem digits_call (n : Int) (w : World) : Calls Tryz.prog 32 #[.int .i64 n] w fun e w' => e = .returned (.tuple #[.int .i64 (lgD n), errV (lgE n)]) ∧ w' = w := by
 unfold lgD lgE
 by_cases c : n < -1100 ∨ 1100 < n
 · rw [if_pos c, if_pos c]
   have L := fun x => len_no n 1292913986 c x
   generalize errV 1 = er at *
   go_enter Tryz.func32, Tryz.ntmps32
   go_wp2_with fail
   refine (L _).mono ?_
   rintro e w ⟨rfl, rfl⟩
   go_wp2
   refine bodyPost_ret (v := .tuple #[.int .i64 0, er]) (by simp [results, Tryz.results32, go_sem]) rfl ⟨rfl, rfl⟩
 · rw [if_neg c, if_neg c]
   have L := fun x => lenD_yes n (by omega) (by omega) x
   generalize n * 1292913986 / 4294967296 + 1 = r at *
   go_enter Tryz.func32, Tryz.ntmps32
   go_wp2_with fail
   refine (L _).mono ?_
   rintro e w ⟨rfl, rfl⟩
   go_wp2
   refine bodyPost_ret (v := .tuple #[.int .i64 r, .nilIface]) (by simp [results, Tryz.results32, go_sem]) rfl ⟨rfl, rfl⟩
def wpX (b : Nat) (m : Nat) (n : Int) : Nat := if n < 0 ∨ (m : Int) < n then 0 else b ^ n.toNat
def wpE (m : Nat) (n : Int) : Nat := if n < 0 ∨ (m : Int) < n then 1 else 0
theorem word_yes (b n m : Nat) (h0 : 0 < b) (hm : m ≤ 100) (hn : n ≤ m) (hp : b ^ m < 18446744073709551616) (w : World) :
 Calls Tryz.prog 120 #[.int .u64 (b : Int), .int .i64 (n : Int), .int .i64 (m : Int)] w fun e w' => e = .returned (.tuple #[.int .u64 ((b ^ n : Nat) : Int), .nilIface]) ∧ w' = w := by
 have HP : Hid (b ^ m < 18446744073709551616 ∧ 0 < b) := ⟨hp, h0⟩
 obtain ⟨P, hP⟩ : ∃ P, P = b ^ n := ⟨_, rfl⟩
 rw [← hP]
 have HQ : Hid (P = b ^ n) := hP
 have W := fun x => within_yes (n : Int) 0 (m : Int) (by omega) (by omega) x
 clear hp h0 hP
 go_enter Tryz.func120, Tryz.ntmps120
 go_wp2_with fail
 refine (W _).mono ?_
 rintro e w ⟨rfl, rfl⟩
 go_wp2
 go_loop [8, 15] (fun pv iv => ∃ k q : Nat, pv = .int .u64 (q : Int) ∧ iv = .int .i64 (k : Int) ∧ k ≤ n ∧ q < 18446744073709551616 ∧ Hid (q = b ^ k)) (fun _ iv => n - (intOf iv).toNat)
 case atStart => exact ⟨0, 1, rfl, rfl, Nat.zero_le _, by omega, by show 1 = b ^ 0; rw [Nat.pow_zero]⟩
 case round =>
  obtain ⟨k, q, rfl, rfl, hk, hq, HK⟩ := hrel
  by_cases c : k < n
  · have e : q * b = b ^ (k + 1) := by rw [HK.out, Nat.pow_succ]
    have lt : q * b < 18446744073709551616 := by rw [e]; exact pow_word HP.out.2 (by omega) HP.out.1
    have pm : (q : Int) * (b : Int) = ((q * b : Nat) : Int) := by rw [Int.natCast_mul]
    have HE : Hid (q * b = b ^ (k + 1)) := e
    clear e
    generalize q * b = r at *
    go_wp2
    go_round
    case rel => exact ⟨k + 1, r, by first | rfl | (rw [pm]), by go_num, by omega, lt, HE⟩
    case measure => simp [intOf]; omega
  · obtain rfl : k = n := by omega
    have HR : Hid (q = P) := HK.out.trans HQ.out.symm
    go_wp2
    refine bodyPost_ret (v := .tuple #[.int .u64 (q : Int), .nilIface]) (by simp [results, Tryz.results120, go_sem]) rfl ⟨by rw [HR.out], rfl⟩
theorem word_no (b n m : Int) (h : n < 0 ∨ m < n) (w : World) :
 Calls Tryz.prog 120 #[.int .u64 b, .int .i64 n, .int .i64 m] w fun e w' => e = .returned (.tuple #[.int .u64 0, errV 1]) ∧ w' = w := by
 have W := fun x => within_no n 0 m h x
 go_enter Tryz.func120, Tryz.ntmps120
 go_wp2_with fail
 refine (W _).mono ?_
 rintro e w ⟨rfl, rfl⟩
 go_wp2
 refine bodyPost_ret (v := .tuple #[.int .u64 0, errV 1]) (by simp [results, Tryz.results120, go_sem]; rfl) rfl ⟨rfl, rfl⟩
theorem word_any (b m : Nat) (n : Int) (h0 : 0 < b) (hm : m ≤ 100) (hp : b ^ m < 18446744073709551616) (w : World) :
 Calls Tryz.prog 120 #[.int .u64 (b : Int), .int .i64 n, .int .i64 (m : Int)] w fun e w' => e = .returned (.tuple #[.int .u64 ((wpX b m n : Nat) : Int), errV (wpE m n)]) ∧ w' = w := by
 unfold wpX wpE
 by_cases c : n < 0 ∨ (m : Int) < n
 · rw [if_pos c, if_pos c]
   exact word_no b n m c w
 · rw [if_neg c, if_neg c]
   obtain ⟨k, rfl⟩ := Int.eq_ofNat_of_zero_le (show 0 ≤ n by omega)
   rw [Int.toNat_natCast]
   exact word_yes b k m h0 hm (by omega) hp w
theorem ten_call (n : Int) (w : World) : Calls Tryz.prog 73 #[.int .i64 n] w fun e w' => e = .returned (.tuple #[.int .u64 ((wpX 10 19 n : Nat) : Int), errV (wpE 19 n)]) ∧ w' = w := by
 have L := fun x => word_any 10 19 n (by omega) (by omega) (by decide) x
 simp only [Int.cast_ofNat_Int] at L
 generalize wpX 10 19 n = r at *
 generalize errV (wpE 19 n) = er at *
 go_enter Tryz.func73, Tryz.ntmps73
 go_wp2_with fail
 refine (L _).mono ?_
 rintro e w ⟨rfl, rfl⟩
 go_wp2
 refine bodyPost_ret (v := .tuple #[.int .u64 (r : Int), er]) (by simp [results, Tryz.results73, go_sem]) rfl ⟨rfl, rfl⟩
theorem five_call (n : Int) (w : World) : Calls Tryz.prog 72 #[.int .i64 n] w fun e w' => e = .returned (.tuple #[.int .u64 ((wpX 5 27 n : Nat) : Int), errV (wpE 27 n)]) ∧ w' = w := by
 have L := fun x => word_any 5 27 n (by omega) (by omega) (by decide) x
 simp only [Int.cast_ofNat_Int] at L
 generalize wpX 5 27 n = r at *
 generalize errV (wpE 27 n) = er at *
 go_enter Tryz.func72, Tryz.ntmps72
 go_wp2_with fail
 refine (L _).mono ?_
 rintro e w ⟨rfl, rfl⟩
 go_wp2
 refine bodyPost_ret (v := .tuple #[.int .u64 (r : Int), er]) (by simp [results, Tryz.results72, go_sem]) rfl ⟨rfl, rfl⟩
theorem und_u64s : Tryz.prog.underlying 81 = some (.slice 22) := by kernel_rfl
theorem num_copy {w : World} {g : Nat} (hg : w.heap[g]? = some (.cells #[.int .u64 0, .int .u64 0] 198 (0, 0))) {ao : Option Addr} {n c b o : Nat} {f : Nat → Nat} (S : Sl w ao n c b o f) (hn : n ≤ 2) :
 ∃ w2, (Builtin.copy_ #[81, 102] 3 #[.slice (some ⟨g, 0, none⟩) 2 2, .slice ao n c]).run Tryz.prog w = .ok (.int .i64 (n : Int)) w2 ∧ w2.cell? ⟨g, 0, none⟩ = some (.int .u64 (if 0 < n then (f 0 : Int) else 0)) ∧ w2.cell? ⟨g, 1, none⟩ = some (.int .u64 (if 1 < n then (f 1 : Int) else 0)) ∧ w.grownBy w2 (some g) := by
 have hgl : g < w.heap.size := (Array.getElem?_eq_some_iff.1 hg).1
 have gr : ∀ r : Array Value, w.grownBy (w.setRow g r) (some g) := fun r => ⟨rfl, rfl, rfl, by rw [size_setRow]; exact Nat.le_refl _, fun k hk hne => block_setRow (fun q => hne (by rw [q]))⟩
 rcases (by omega : n = 0 ∨ n = 1 ∨ n = 2) with rfl | rfl | rfl
 · refine ⟨w, run_copy_none w _ _ 3 22 _ _ _ _ _ _ und_u64s size_u64 (by simp), ?_, ?_, World.grownBy.refl _ _⟩
   · simp [World.cell?, hg]
   · simp [World.cell?, hg]
 · obtain rfl := S.addr (by omega)
   have e := run_copy_row (P := Tryz.prog) w 81 102 3 22 g 0 2 2 ⟨b, o, none⟩ 1 c _ 198 [.int .u64 (f 0 : Int)] und_u64s size_u64 hg rfl
    (fun j v hv => by
     rcases j with _ | j
     · have := Option.some.inj hv
       rw [← this]
       simpa [Addr.add] using S.cell 0 (by omega)
     · cases hv) (by simp) (by simp [Value.oneCell'])
   refine ⟨_, e, ?_, ?_, gr _⟩
   · simp [World.cell?, setRow_heap w g _ _ 198 (0, 0) hg]
   · simp [World.cell?, setRow_heap w g _ _ 198 (0, 0) hg]
 · obtain rfl := S.addr (by omega)
   have e := run_copy_row (P := Tryz.prog) w 81 102 3 22 g 0 2 2 ⟨b, o, none⟩ 2 c _ 198 [.int .u64 (f 0 : Int), .int .u64 (f 1 : Int)] und_u64s size_u64 hg rfl
    (fun j v hv => by
     rcases j with _ | _ | j
     · have := Option.some.inj hv
       rw [← this]
       simpa [Addr.add] using S.cell 0 (by omega)
     · have := Option.some.inj hv
       rw [← this]
       simpa [Addr.add] using S.cell 1 (by omega)
     · cases hv) (by simp) (by simp [Value.oneCell'])
   refine ⟨_, e, ?_, ?_, gr _⟩
   · simp [World.cell?, setRow_heap w g _ _ 198 (0, 0) hg]
   · simp [World.cell?, setRow_heap w g _ _ 198 (0, 0) hg]
theorem two_words {f : Nat → Nat} (hf : Ws f) {n : Nat} (t : Top f n) (h : V f n < 2 ^ 128) : n ≤ 2 ∧ (if 1 < n then (f 1 : Int) else 0) = hiW (V f n) ∧ (if 0 < n then (f 0 : Int) else 0) = loW (V f n) := by
 have h2 : V f n < B ^ 2 := by rw [show B ^ 2 = 2 ^ 128 from by decide]; exact h
 have hn : n ≤ 2 := len_le t h2
 have f0 := hf 0
 have f1 := hf 1
 refine ⟨hn, ?_⟩
 unfold hiW loW
 unfold B at f0 f1
 rcases (by omega : n = 0 ∨ n = 1 ∨ n = 2) with rfl | rfl | rfl
 · rw [V_zero]; simp
 · have e : V f 1 = f 0 := by rw [V_succ, V_zero, Nat.pow_zero]; omega
   rw [e]
   constructor
   · rw [if_neg (by omega)]; omega
   · rw [if_pos (by omega)]; omega
 · have e : V f 2 = f 0 + f 1 * 18446744073709551616 := by rw [V_succ, V_succ, V_zero, Nat.pow_zero, Nat.pow_one]; unfold B; omega
   rw [e]
   constructor
   · rw [if_pos (by omega)]; omega
   · rw [if_pos (by omega)]; omega
theorem number_ok {w : World} {va : Value} {X : Nat} (ha : NatV w va X) (hX : X < 2 ^ 128) :
 Calls Tryz.prog 115 #[va] w fun e w' => e = .returned (.agg #[.int .u64 (hiW X), .int .u64 (loW X)]) ∧ Below w.heap.size w w' := by
 obtain ⟨ao, n, c, b, o, f, rfl, S, t, rfl, hn⟩ := ha
 obtain ⟨hn2, e1, e0⟩ := two_words S.ws t hX
 obtain ⟨W, hW⟩ : ∃ W, (w.alloc (.cells #[.int .u64 0, .int .u64 0] 44)).alloc (.cells #[.int .u64 0, .int .u64 0] 198) = W := ⟨_, rfl⟩
 have bW : Below w.heap.size w W := by rw [← hW]; exact ((Below.refl _ _).alloc (Nat.le_refl _) _).alloc (by simp) _
 have sW : W.heap.size = w.heap.size + 2 := by rw [← hW]; simp
 have hg : W.heap[w.heap.size + 1]? = some (.cells #[.int .u64 0, .int .u64 0] 198 (0, 0)) := by
  rw [← hW]
  have q := heap_alloc_new (w.alloc (.cells #[.int .u64 0, .int .u64 0] 44)) (.cells #[.int .u64 0, .int .u64 0] 198)
  simpa using q
 have z0 : W.cell? ⟨w.heap.size, 0, none⟩ = some (.int .u64 0) := by rw [← hW]; simp
 have z1 : W.cell? ⟨w.heap.size, 1, none⟩ = some (.int .u64 0) := by rw [← hW]; simp
 have zf : ∀ o, W.frozen? ⟨w.heap.size, o, none⟩ = false := fun o => by rw [← hW, frozen?_alloc_cells]; exact World.frozen?_alloc_new _ _ _ _
 obtain ⟨w2, hcp, c0, c1, gr⟩ := num_copy hg (S.below bW) hn2
 rw [e0] at c0
 rw [e1] at c1
 have y0 : w2.cell? ⟨w.heap.size, 0, none⟩ = some (.int .u64 0) := (World.cell?_of_block (gr.block w.heap.size (by omega) (by simp))).trans z0
 have y1 : w2.cell? ⟨w.heap.size, 1, none⟩ = some (.int .u64 0) := (World.cell?_of_block (gr.block w.heap.size (by omega) (by simp))).trans z1
 have yf : ∀ o, w2.frozen? ⟨w.heap.size, o, none⟩ = false := fun o => (World.frozen?_of_block (gr.block w.heap.size (by omega) (by simp))).trans (zf o)
 have b2 : Below w.heap.size w w2 := bW.grown gr (by omega) (fun q hq => by have := Option.some.inj hq; omega)
 have HB : Hid (Below w.heap.size w w2) := b2
 generalize hiW (V f n) = h at *
 generalize loW (V f n) = l at *
 clear hX t e0 e1 hn hn2 S gr bW b2 hg z0 z1 zf
 go_enter Tryz.func115, Tryz.ntmps115
 go_wp2
 refine bodyPost_ret (v := .agg #[.int .u64 h, .int .u64 l]) (by simp [results, Tryz.results115, go_sem, y0, y1]) rfl ⟨rfl, (HB.out.setCell (Nat.le_refl _) _).setCell (Nat.le_refl _) _⟩
theorem five_lt {n K : Nat} (h : 3 * n < 64 * K) : 5 ^ n < B ^ K := by
 have a : 5 ^ n ≤ 8 ^ n := Nat.pow_le_pow_left (by omega) n
 rw [show 8 = 2 ^ 3 from rfl, ← Nat.pow_mul] at a
 rw [twoB_pow]
 exact Nat.lt_of_le_of_lt a (Nat.pow_lt_pow_right (by omega) h)
theorem five_bl {n : Nat} : bl (5 ^ n) ≤ 3 * n + 1 := by
 have a : 5 ^ n ≤ 8 ^ n := Nat.pow_le_pow_left (by omega) n
 rw [show 8 = 2 ^ 3 from rfl, ← Nat.pow_mul] at a
 exact bl_mono_le (Nat.lt_of_le_of_lt a (Nat.pow_lt_pow_right (by omega) (by omega)))
theorem pof_ok (n : Nat) (hn : n ≤ 400) (w : World) :
 Calls Tryz.prog 113 #[.int .i64 (n : Int)] w fun e w' => ∃ v, e = .returned (.tuple #[v, .int .i64 (bl (5 ^ n) : Int)]) ∧ NatV w' v (5 ^ n) ∧ Below w.heap.size w w' := by
 have P := power_ok 5 n (by decide) (by omega) (five_lt (by omega)) w
 obtain ⟨X, hX⟩ : ∃ X, X = 5 ^ n := ⟨_, rfl⟩
 rw [← hX] at P ⊢
 simp only [Int.cast_ofNat_Int] at P
 obtain ⟨L, hL⟩ : ∃ L, L = bl X := ⟨_, rfl⟩
 rw [← hL]
 have HL : Hid (L = bl X) := hL
 clear hX hL
 go_enter Tryz.func113, Tryz.ntmps113
 go_wp2_with fail
 refine P.mono ?_
 rintro e w1 ⟨v, rfl, n1, b1⟩
 have N1 : Hid (NatV w1 v X) := n1
 obtain ⟨ao, m, c, b, o, f, rfl, S, t, hv, hm⟩ := n1
 have BT := bitsN_any S
 rw [verr_ok hm t, num2_zero, hv, ← HL.out] at BT
 unfold errV at BT
 clear S t hv
 go_wp2_with fail
 refine BT.mono ?_
 rintro e w2 ⟨rfl, b2⟩
 go_wp2
 refine bodyPost_ret (v := .tuple #[.slice ao m c, .int .i64 (L : Int)]) (by simp [results, Tryz.results113, go_sem]) rfl ⟨_, rfl, N1.out.below b2, b1.trans (b2.mono b1.size)⟩
theorem by_stepB {T x d : Nat} (hd : 0 < d) : (T * Big.B + x) / d = T / d * Big.B + (T % d * Big.B + x) / d ∧ (T * Big.B + x) % d = (T % d * Big.B + x) % d := by
 have e : T * Big.B + x = d * (T / d * Big.B) + (T % d * Big.B + x) := by
  have q := Nat.div_add_mod T d
  have r : T * Big.B = d * (T / d * Big.B) + T % d * Big.B := by
   rw [← Nat.mul_assoc, ← Nat.add_mul, q]
  omega
 rw [e, Nat.mul_add_div hd, Nat.mul_add_mod]
 exact ⟨rfl, rfl⟩
theorem V_topB (f : Nat → Nat) (k n : Nat) (h : k < n) : Big.V (fun i => f (k + i)) (n - k) = Big.V (fun i => f (k + 1 + i)) (n - (k + 1)) * Big.B + f k := by
 obtain ⟨m, e⟩ : ∃ m, n - k = 1 + m := ⟨n - k - 1, by omega⟩
 have s := Big.V_split (fun i => f (k + i)) 1 m
 rw [e, s, show n - (k + 1) = m by omega, Nat.pow_one, Big.V_succ, Big.V_zero, Nat.pow_zero, Nat.mul_one, Nat.zero_add, Nat.add_zero, Nat.add_comm]
 congr 2
 exact Big.V_congr fun i _ => by show f (k + (1 + i)) = f (k + 1 + i); rw [Nat.add_assoc]
theorem by_fits {T x d : Nat} (hT : T < d) (hx : x < Big.B) : (T * Big.B + x) / d < Big.B := by
 rw [Nat.div_lt_iff_lt_mul (by omega), Nat.mul_comm Big.B d]
 have := Nat.mul_le_mul_right Big.B (Nat.succ_le_of_lt hT)
 rw [Nat.succ_mul] at this
 omega
theorem toListData (s : ByteArray) : s.toList = s.data.toList := by
  have go : ∀ (n i : Nat) (r : List UInt8), n = s.size - i → ByteArray.toList.loop s i r = r.reverse ++ s.data.toList.drop i := by
    intro n
    induction n with
    | zero =>
      intro i r h
      rw [ByteArray.toList.loop, if_neg (by omega), List.drop_eq_nil_of_le (by simpa using (show s.size ≤ i by omega))]
      simp
    | succ n ih =>
      intro i r h
      have hi : i < s.size := by omega
      have hl : i < s.data.toList.length := by simpa using hi
      rw [ByteArray.toList.loop, if_pos hi, ih (i + 1) _ (by omega), List.drop_eq_getElem_cons hl, List.reverse_cons, List.append_assoc]
      congr 1
      simp only [List.singleton_append, List.cons.injEq, and_true]
      simp [ByteArray.get!, hi]
  show ByteArray.toList.loop s 0 [] = _
  simpa using go s.size 0 [] (by omega)
theorem list_some {t : ByteArray} (h : t.size ≠ 0) : t.toList.isEmpty = false := by
 rw [toListData]
 have l : t.data.toList.length = t.size := by rw [Array.length_toList]; rfl
 cases e : t.data.toList with
 | nil => rw [e] at l; exact absurd l.symm h
 | cons a b => rfl
structure Dr (w : World) (g n : Nat) (F : Nat → Nat) : Prop where
 lt : g < w.heap.size
 cell : ∀ i, i < n → w.cell? ⟨g, i, none⟩ = some (.int .u64 (F i : Int))
 fz : ∀ i, w.frozen? ⟨g, i, none⟩ = false
 ws : Big.Ws F
theorem Dr.set {w : World} {g n : Nat} {F : Nat → Nat} (h : Dr w g n F) (i : Nat) (hi : i < n) {r : Nat} (hr : r < Big.B) : Dr (w.setCell ⟨g, i, none⟩ (.int .u64 (r : Int))) g n (Big.put F i r) := by
 refine ⟨by simpa using h.lt, fun j hj => ?_, fun j => (World.frozen?_setCell ..).trans (h.fz j), Big.put_Ws h.ws hr⟩
 by_cases c : j = i
 · subst c
   rw [Big.put_at]
   exact World.cell?_setCell_same _ _ _ (h.cell j hi)
 · rw [Big.put_ne c]
   exact (World.cell?_setCell_other _ ⟨g, i, none⟩ ⟨g, j, none⟩ _ (by intro e; cases e; exact c rfl)).trans (h.cell j hj)
theorem Dr.less {w : World} {g n m : Nat} {F : Nat → Nat} (h : Dr w g n F) (hm : m ≤ n) : Dr w g m F := ⟨h.lt, fun i hi => h.cell i (by omega), h.fz, h.ws⟩
theorem Dr.sl {w : World} {g n c : Nat} {F : Nat → Nat} (h : Dr w g n F) (h1 : n ≤ c) (h2 : c ≤ maxLen) : Big.D.Sl w (some ⟨g, 0, none⟩) n c g 0 F :=
 ⟨h1, h2, fun _ => rfl, fun _ => h.lt, fun i hi => by rw [Nat.zero_add]; exact h.cell i hi, h.ws⟩
theorem own_dr {w : World} {base : Nat} {v : Value} {n : Nat} {F : Nat → Nat} (h : w.ownsRow base 22 1 v n (dV .u64 F n)) (hF : Big.Ws F) (h0 : 0 < n) :
 ∃ g c, v = .slice (some ⟨g, 0, none⟩) n c ∧ n ≤ c ∧ c ≤ maxLen ∧ base ≤ g ∧ Dr w g n F := by
 have q := own_cells h
 rcases h.2 with ⟨rfl, rfl⟩ | ⟨g, cap, cur, rfl, hbg, hheap, hle, hmx, hcs, htk⟩
 · omega
 · obtain ⟨ao, c, b, e, h1, h2, h3, h4⟩ := q
   obtain ⟨ea, _, _⟩ := h3 h0
   cases e
   cases ea
   refine ⟨g, cap, rfl, hle, hmx, hbg, (Array.getElem?_eq_some_iff.1 hheap).1, fun i hi => ?_, fun i => ?_, hF⟩
   · have := h4 i hi
     rw [Nat.zero_add] at this
     exact this
   · simp [World.frozen?, hheap]
theorem dec_step {X Y k r z : Nat} (hk : k < 9) (h : Y * 10 ^ (9 - k) + r = X / 10 ^ z) (hr : r < 10 ^ (9 - k)) (h0 : r ≠ 0 ∨ Y ≠ 0) :
 r / 10 < 10 ^ (9 - (k + 1)) ∧ Y * 10 ^ (9 - (k + 1)) + r / 10 = X / 10 ^ (z + 1) ∧ 10 ^ z ≤ X := by
 have e : 10 ^ (9 - k) = 10 ^ (9 - (k + 1)) * 10 := by rw [← Nat.pow_succ]; congr 1; omega
 rw [e] at h hr
 have pz : 0 < 10 ^ z := Nat.pow_pos (by omega)
 refine ⟨by omega, ?_, ?_⟩
 · rw [Nat.pow_succ, ← Nat.div_div_eq_div_mul, ← h, ← Nat.mul_assoc]
   omega
 · apply Nat.le_of_not_lt
   intro c
   rw [Nat.div_eq_of_lt c] at h
   have pk : 0 < 10 ^ (9 - (k + 1)) := Nat.pow_pos (by omega)
   rcases h0 with q | q
   · omega
   · have := Nat.mul_pos (Nat.pos_of_ne_zero q) (Nat.mul_pos pk (show 0 < 10 by omega))
     omega
theorem dec_sizeL {L X z : Nat} (hX : Fits L X) (h : 10 ^ z ≤ X) : z < 32 * L := by
 have a := hX.lt
 rw [D_pow] at a
 have b : 2 ^ z ≤ 10 ^ z := Nat.pow_le_pow_left (by omega) z
 have c : 2 ^ z < 2 ^ (32 * L) := by omega
 exact (Nat.pow_lt_pow_iff_right (by omega)).1 c
theorem dec_size {X z : Nat} (hX : Fits 400 X) (h : 10 ^ z ≤ X) : z < 12800 := dec_sizeL hX h
def tenB : ByteArray := ⟨#[48, 49, 50, 51, 52, 53, 54, 55, 56, 57]⟩
theorem tenB_size {r : Nat} (h : r < 10) : (tenB.extract r (r + 1)).size = 1 := by
 rw [ByteArray.size_extract]
 have : tenB.size = 10 := rfl
 omega
end Go.Proofs.YtjagnfddmlkalaaGreatDoor
