/-
  Holds: VDecS VDecT VDecW VDecL.
-/
import Derived.Test.YtbpfhnndlknloaaGreatDoorRows
import Derived.Laws.Externs
import Derived.WalkKit
import Derived.WalkSpells
import Derived.WalkLawsBesides
import Derived.Lib.Mul64
import Derived.Stop.Asserts
import Derived.RowKitTokens
import Derived.Lib.Strings
import Derived.Lib.BufferWrite
import Derived.Deep.OwnRows
import Derived.Laws.CopyOwn
import Derived.BigQuiet
import Derived.Deep.RegionHeld3
import Derived.Lib.TrailingZeros
import Derived.Lib.ItoaNum
import Derived.Deep.LoopGhost
import Derived.Test.YtbpfhnndlknloaaGreatDoorKg2
set_option maxRecDepth 100000
set_option maxHeartbeats 4000000
namespace Go.Proofs.YtbpfhnndlknloaaGreatDoor
open Go.RowKit
theorem pre_size {s : ByteArray} {k : Nat} (h : k ≤ s.size) : (s.extract 0 k).size = k := by rw [ByteArray.size_extract]; omega
theorem pre_cut {s : ByteArray} {k : Nat} : (s.extract 0 (k + 1)).extract 0 k = s.extract 0 k := by
 apply ByteArray.ext
 rw [ByteArray.data_extract, ByteArray.data_extract, ByteArray.data_extract, Array.extract_extract]
 congr 1
 omega
theorem pre_get {s : ByteArray} {k i : Nat} (hk : k ≤ s.size) (h : i < k) : ∀ hh, ((s.extract 0 k)[i]'hh).toNat = (s[i]'(by omega)).toNat := by
 intro hh
 simp [ByteArray.getElem_extract]
theorem und_bytes48 : Tryz.prog.underlying 172 = some (.slice 5) := by kernel_rfl
structure Two (w W : World) (s : ByteArray) (p : Int) (c : Bool) (t : ByteArray) (q : Int) (d : Bool) : Prop where
 sz : w.heap.size + 2 ≤ W.heap.size
 bel : Below w.heap.size w W
 a0 : W.cell? ⟨w.heap.size, 0, none⟩ = some (.string s)
 a1 : W.cell? ⟨w.heap.size, 1, none⟩ = some (.int .i64 p)
 a2 : W.cell? ⟨w.heap.size, 2, none⟩ = some (.bool c)
 b0 : W.cell? ⟨w.heap.size + 1, 0, none⟩ = some (.string t)
 b1 : W.cell? ⟨w.heap.size + 1, 1, none⟩ = some (.int .i64 q)
 b2 : W.cell? ⟨w.heap.size + 1, 2, none⟩ = some (.bool d)
theorem Two.step {w W W' : World} {s : ByteArray} {p : Int} {c : Bool} {t : ByteArray} {q : Int} {d : Bool} (h : Two w W s p c t q d) (hb : Below W.heap.size W W') : Two w W' s p c t q d := by
 have z := h.sz
 have k : ∀ o, W'.cell? ⟨w.heap.size, o, none⟩ = W.cell? ⟨w.heap.size, o, none⟩ := fun o => hb.cell (p := ⟨w.heap.size, o, none⟩) (by show w.heap.size < W.heap.size; omega)
 have k' : ∀ o, W'.cell? ⟨w.heap.size + 1, o, none⟩ = W.cell? ⟨w.heap.size + 1, o, none⟩ := fun o => hb.cell (p := ⟨w.heap.size + 1, o, none⟩) (by show w.heap.size + 1 < W.heap.size; omega)
 exact ⟨Nat.le_trans z hb.size, h.bel.trans (hb.mono (by omega)), (k 0).trans h.a0, (k 1).trans h.a1, (k 2).trans h.a2, (k' 0).trans h.b0, (k' 1).trans h.b1, (k' 2).trans h.b2⟩
theorem Two.start (w : World) (s : ByteArray) (p : Int) (c : Bool) (t : ByteArray) (q : Int) (d : Bool) : Two w ((w.alloc (.cells #[.string s, .int .i64 p, .bool c] 24)).alloc (.cells #[.string t, .int .i64 q, .bool d] 24)) s p c t q d :=
 ⟨by simp, ((Below.refl _ _).alloc (Nat.le_refl _) _).alloc (by simp) _, by simp, by simp, by simp, by simp, by simp, by simp⟩
theorem Two.drew {w W : World} {s : ByteArray} {p : Int} {c : Bool} {t : ByteArray} {q : Int} {d : Bool} (h : Two w W s p c t q d) : Two w W.drew s p c t q d := h.step (Below.refl _ _).drew
theorem lower_any {s : ByteArray} {p : Int} {c : Bool} {t : ByteArray} {q : Int} {d : Bool} (hs : s.size ≤ 800) (ht : t.size ≤ 800) (ds : DG s) (dt : DG t) (w : World) :
 Calls Tryz.prog 159 #[dcV s p c, dcV t q d] w fun e w' => e = .returned (.int .i64 (lowF s p t q)) ∧ Below w.heap.size w w' := by
 have T0 := Two.start w s p c t q d
 have HT0 : Hid (Two w ((w.alloc (.cells #[.string s, .int .i64 p, .bool c] 24)).alloc (.cells #[.string t, .int .i64 q, .bool d] 24)) s p c t q d) := T0
 clear T0
 unfold lowF dcV
 by_cases z1 : s.size = 0
 · by_cases z2 : t.size = 0
   · rw [if_pos ⟨z1, z2⟩]
     go_enter Tryz.func159, Tryz.ntmps159
     go_wp2
     go_ret
     exact ⟨rfl, HT0.out.bel⟩
   · rw [if_neg (fun h => z2 h.2), if_pos z1]
     go_enter Tryz.func159, Tryz.ntmps159
     go_wp2
     go_ret
     exact ⟨rfl, HT0.out.bel⟩
 rw [if_neg (fun h => z1 h.1), if_neg z1]
 by_cases z2 : t.size = 0
 · rw [if_pos z2]
   go_enter Tryz.func159, Tryz.ntmps159
   go_wp2
   go_ret
   exact ⟨rfl, HT0.out.bel⟩
 rw [if_neg z2]
 by_cases c1 : p < q
 · rw [if_pos c1]
   go_enter Tryz.func159, Tryz.ntmps159
   go_wp2
   go_ret
   exact ⟨rfl, HT0.out.bel⟩
 rw [if_neg c1]
 by_cases c2 : q < p
 · rw [if_pos c2]
   go_enter Tryz.func159, Tryz.ntmps159
   go_wp2
   go_ret
   exact ⟨rfl, HT0.out.bel⟩
 rw [if_neg c2]
 have A1 := fun i W => at_any s p c i W
 have A2 := fun i W => at_any t q d i W
 unfold dcV at A1 A2
 obtain ⟨K, hK⟩ : ∃ K, K = max s.size t.size := ⟨_, rfl⟩
 have HL : Hid (lw s t = cmpI (pv s K : Nat) (pv t K : Nat)) := by rw [hK]; rfl
 have HK : Hid (K = max s.size t.size) := hK
 have hK8 : K ≤ 800 := by omega
 clear hK
 have DS : Hid (DG s) := ds
 have DT : Hid (DG t) := dt
 clear ds dt
 go_enter Tryz.func159, Tryz.ntmps159
 go_wp2
 go_loopw [5] (fun iv wr => ∃ k : Nat, iv = .int .i64 (k : Int) ∧ k ≤ K ∧ Hid (Two w wr s p c t q d) ∧ Hid (∀ j, j < k → dgt s j = dgt t j)) (fun iv _ => K - (intOf iv).toNat)
 case atStart => exact ⟨0, rfl, Nat.zero_le _, HT0, fun j h => absurd h (Nat.not_lt_zero _)⟩
 case round =>
  obtain ⟨k, rfl, hk, HT, HE⟩ := hrel
  clear HT0
  have HTd : Hid (Two w wr.drew s p c t q d) := HT.out.drew
  obtain ⟨_, _, a0, a1, a2, b0, b1, b2⟩ := HT.out
  by_cases hkK : k < K
  · obtain ⟨x, hx⟩ : ∃ x, x = dgt s k := ⟨_, rfl⟩
    obtain ⟨y, hy⟩ : ∃ y, y = dgt t k := ⟨_, rfl⟩
    have A1' := fun W => A1 k W
    have A2' := fun W => A2 k W
    rw [← hx] at A1'
    rw [← hy] at A2'
    have HX : Hid (x = dgt s k ∧ y = dgt t k) := ⟨hx, hy⟩
    clear hx hy
    by_cases g1 : k < s.size
    · rcases Nat.lt_trichotomy x y with u | u | u
      · have HR : Hid (lw s t = -1) := by
         have v := pv_diff DS.out DT.out HE.out (by rw [← HX.out.1, ← HX.out.2]; exact u) hkK
         show lw s t = -1
         rw [HL.out]; unfold cmpI; rw [if_pos (by omega)]
        have u1 : (x : Int) < (y : Int) := by omega
        clear u
        go_wp2
        go_region_held3 (fun w' => w'.cell? ⟨w.heap.size, 0, none⟩ = some (.string s) ∧ w'.cell? ⟨w.heap.size, 1, none⟩ = some (.int .i64 p) ∧ w'.cell? ⟨w.heap.size, 2, none⟩ = some (.bool c) ∧ w'.cell? ⟨w.heap.size + 1, 0, none⟩ = some (.string t) ∧ w'.cell? ⟨w.heap.size + 1, 1, none⟩ = some (.int .i64 q) ∧ w'.cell? ⟨w.heap.size + 1, 2, none⟩ = some (.bool d)) (simp [*, go_sem])
         (first
          | (go_at_call_of 178 (Value.agg #[.string s, .int .i64 p, .bool c]); refine (A1' _).mono ?_; rintro e w3 ⟨rfl, hb3⟩; have HT3 : Hid (Two w w3 s p c t q d) := HT.out.drew.step hb3; clear hb3; obtain ⟨_, _, x03, x13, x23, x33, x43, x53⟩ := HT3.out)
          | (go_at_call_of 178 (Value.agg #[.string t, .int .i64 q, .bool d]); refine (A2' _).mono ?_; rintro e w4 ⟨rfl, hb4⟩; have HT4 : Hid (Two w w4 s p c t q d) := HT3.out.step hb4; clear hb4; obtain ⟨_, _, x04, x14, x24, x34, x44, x54⟩ := HT4.out))
        go_wp2
        go_ret
        exact ⟨by rw [HR.out]; rfl, HT4.out.bel⟩
      · have HQ : Hid (x = y) := u
        have u1 : ¬ (x : Int) < (y : Int) := by omega
        have u2 : ¬ (y : Int) < (x : Int) := by omega
        clear u
        go_wp2
        go_region_held3 (fun w' => w'.cell? ⟨w.heap.size, 0, none⟩ = some (.string s) ∧ w'.cell? ⟨w.heap.size, 1, none⟩ = some (.int .i64 p) ∧ w'.cell? ⟨w.heap.size, 2, none⟩ = some (.bool c) ∧ w'.cell? ⟨w.heap.size + 1, 0, none⟩ = some (.string t) ∧ w'.cell? ⟨w.heap.size + 1, 1, none⟩ = some (.int .i64 q) ∧ w'.cell? ⟨w.heap.size + 1, 2, none⟩ = some (.bool d)) (simp [*, go_sem])
         (first
          | (go_at_call_of 178 (Value.agg #[.string s, .int .i64 p, .bool c]); refine (A1' _).mono ?_; rintro e w3 ⟨rfl, hb3⟩; have HT3 : Hid (Two w w3 s p c t q d) := HT.out.drew.step hb3; clear hb3; obtain ⟨_, _, x03, x13, x23, x33, x43, x53⟩ := HT3.out)
          | (go_at_call_of 178 (Value.agg #[.string t, .int .i64 q, .bool d]); refine (A2' _).mono ?_; rintro e w4 ⟨rfl, hb4⟩; have HT4 : Hid (Two w w4 s p c t q d) := HT3.out.step hb4; clear hb4; obtain ⟨_, _, x04, x14, x24, x34, x44, x54⟩ := HT4.out))
        go_wp2
        go_region_held3 (fun w' => w'.cell? ⟨w.heap.size, 0, none⟩ = some (.string s) ∧ w'.cell? ⟨w.heap.size, 1, none⟩ = some (.int .i64 p) ∧ w'.cell? ⟨w.heap.size, 2, none⟩ = some (.bool c) ∧ w'.cell? ⟨w.heap.size + 1, 0, none⟩ = some (.string t) ∧ w'.cell? ⟨w.heap.size + 1, 1, none⟩ = some (.int .i64 q) ∧ w'.cell? ⟨w.heap.size + 1, 2, none⟩ = some (.bool d)) (simp [*, go_sem])
         (first
          | (go_at_call_of 178 (Value.agg #[.string s, .int .i64 p, .bool c]); refine (A1' _).mono ?_; rintro e w5 ⟨rfl, hb5⟩; have HT5 : Hid (Two w w5 s p c t q d) := HT4.out.drew.step hb5; clear hb5; obtain ⟨_, _, x05, x15, x25, x35, x45, x55⟩ := HT5.out)
          | (go_at_call_of 178 (Value.agg #[.string t, .int .i64 q, .bool d]); refine (A2' _).mono ?_; rintro e w6 ⟨rfl, hb6⟩; have HT6 : Hid (Two w w6 s p c t q d) := HT5.out.step hb6; clear hb6; obtain ⟨_, _, x06, x16, x26, x36, x46, x56⟩ := HT6.out))
        go_wp2
        go_roundw
        case rel =>
         refine ⟨k + 1, by go_num, by omega, HT6, fun j hj => ?_⟩
         by_cases z : j = k
         · rw [z, ← HX.out.1, ← HX.out.2, HQ.out]
         · exact HE.out j (by omega)
        case measure => simp [intOf]; omega
      · have HR : Hid (lw s t = 1) := by
         have v := pv_diff DT.out DS.out (fun j hj => (HE.out j hj).symm) (by rw [← HX.out.1, ← HX.out.2]; exact u) hkK
         show lw s t = 1
         rw [HL.out]; unfold cmpI; rw [if_neg (by omega), if_pos (by omega)]
        have u1 : ¬ (x : Int) < (y : Int) := by omega
        have u2 : (y : Int) < (x : Int) := by omega
        clear u
        go_wp2
        go_region_held3 (fun w' => w'.cell? ⟨w.heap.size, 0, none⟩ = some (.string s) ∧ w'.cell? ⟨w.heap.size, 1, none⟩ = some (.int .i64 p) ∧ w'.cell? ⟨w.heap.size, 2, none⟩ = some (.bool c) ∧ w'.cell? ⟨w.heap.size + 1, 0, none⟩ = some (.string t) ∧ w'.cell? ⟨w.heap.size + 1, 1, none⟩ = some (.int .i64 q) ∧ w'.cell? ⟨w.heap.size + 1, 2, none⟩ = some (.bool d)) (simp [*, go_sem])
         (first
          | (go_at_call_of 178 (Value.agg #[.string s, .int .i64 p, .bool c]); refine (A1' _).mono ?_; rintro e w3 ⟨rfl, hb3⟩; have HT3 : Hid (Two w w3 s p c t q d) := HT.out.drew.step hb3; clear hb3; obtain ⟨_, _, x03, x13, x23, x33, x43, x53⟩ := HT3.out)
          | (go_at_call_of 178 (Value.agg #[.string t, .int .i64 q, .bool d]); refine (A2' _).mono ?_; rintro e w4 ⟨rfl, hb4⟩; have HT4 : Hid (Two w w4 s p c t q d) := HT3.out.step hb4; clear hb4; obtain ⟨_, _, x04, x14, x24, x34, x44, x54⟩ := HT4.out))
        go_wp2
        go_region_held3 (fun w' => w'.cell? ⟨w.heap.size, 0, none⟩ = some (.string s) ∧ w'.cell? ⟨w.heap.size, 1, none⟩ = some (.int .i64 p) ∧ w'.cell? ⟨w.heap.size, 2, none⟩ = some (.bool c) ∧ w'.cell? ⟨w.heap.size + 1, 0, none⟩ = some (.string t) ∧ w'.cell? ⟨w.heap.size + 1, 1, none⟩ = some (.int .i64 q) ∧ w'.cell? ⟨w.heap.size + 1, 2, none⟩ = some (.bool d)) (simp [*, go_sem])
         (first
          | (go_at_call_of 178 (Value.agg #[.string s, .int .i64 p, .bool c]); refine (A1' _).mono ?_; rintro e w5 ⟨rfl, hb5⟩; have HT5 : Hid (Two w w5 s p c t q d) := HT4.out.drew.step hb5; clear hb5; obtain ⟨_, _, x05, x15, x25, x35, x45, x55⟩ := HT5.out)
          | (go_at_call_of 178 (Value.agg #[.string t, .int .i64 q, .bool d]); refine (A2' _).mono ?_; rintro e w6 ⟨rfl, hb6⟩; have HT6 : Hid (Two w w6 s p c t q d) := HT5.out.step hb6; clear hb6; obtain ⟨_, _, x06, x16, x26, x36, x46, x56⟩ := HT6.out))
        go_wp2
        go_ret
        exact ⟨by rw [HR.out]; rfl, HT6.out.bel⟩
    · have g2 : k < t.size := by have := HK.out; omega
      rcases Nat.lt_trichotomy x y with u | u | u
      · have HR : Hid (lw s t = -1) := by
         have v := pv_diff DS.out DT.out HE.out (by rw [← HX.out.1, ← HX.out.2]; exact u) hkK
         show lw s t = -1
         rw [HL.out]; unfold cmpI; rw [if_pos (by omega)]
        have u1 : (x : Int) < (y : Int) := by omega
        clear u
        go_wp2
        go_region_held3 (fun w' => w'.cell? ⟨w.heap.size, 0, none⟩ = some (.string s) ∧ w'.cell? ⟨w.heap.size, 1, none⟩ = some (.int .i64 p) ∧ w'.cell? ⟨w.heap.size, 2, none⟩ = some (.bool c) ∧ w'.cell? ⟨w.heap.size + 1, 0, none⟩ = some (.string t) ∧ w'.cell? ⟨w.heap.size + 1, 1, none⟩ = some (.int .i64 q) ∧ w'.cell? ⟨w.heap.size + 1, 2, none⟩ = some (.bool d)) (simp [*, go_sem])
         (first
          | (go_at_call_of 178 (Value.agg #[.string s, .int .i64 p, .bool c]); refine (A1' _).mono ?_; rintro e w3 ⟨rfl, hb3⟩; have HT3 : Hid (Two w w3 s p c t q d) := HT.out.drew.step hb3; clear hb3; obtain ⟨_, _, x03, x13, x23, x33, x43, x53⟩ := HT3.out)
          | (go_at_call_of 178 (Value.agg #[.string t, .int .i64 q, .bool d]); refine (A2' _).mono ?_; rintro e w4 ⟨rfl, hb4⟩; have HT4 : Hid (Two w w4 s p c t q d) := HT3.out.step hb4; clear hb4; obtain ⟨_, _, x04, x14, x24, x34, x44, x54⟩ := HT4.out))
        go_wp2
        go_ret
        exact ⟨by rw [HR.out]; rfl, HT4.out.bel⟩
      · have HQ : Hid (x = y) := u
        have u1 : ¬ (x : Int) < (y : Int) := by omega
        have u2 : ¬ (y : Int) < (x : Int) := by omega
        clear u
        go_wp2
        go_region_held3 (fun w' => w'.cell? ⟨w.heap.size, 0, none⟩ = some (.string s) ∧ w'.cell? ⟨w.heap.size, 1, none⟩ = some (.int .i64 p) ∧ w'.cell? ⟨w.heap.size, 2, none⟩ = some (.bool c) ∧ w'.cell? ⟨w.heap.size + 1, 0, none⟩ = some (.string t) ∧ w'.cell? ⟨w.heap.size + 1, 1, none⟩ = some (.int .i64 q) ∧ w'.cell? ⟨w.heap.size + 1, 2, none⟩ = some (.bool d)) (simp [*, go_sem])
         (first
          | (go_at_call_of 178 (Value.agg #[.string s, .int .i64 p, .bool c]); refine (A1' _).mono ?_; rintro e w3 ⟨rfl, hb3⟩; have HT3 : Hid (Two w w3 s p c t q d) := HT.out.drew.step hb3; clear hb3; obtain ⟨_, _, x03, x13, x23, x33, x43, x53⟩ := HT3.out)
          | (go_at_call_of 178 (Value.agg #[.string t, .int .i64 q, .bool d]); refine (A2' _).mono ?_; rintro e w4 ⟨rfl, hb4⟩; have HT4 : Hid (Two w w4 s p c t q d) := HT3.out.step hb4; clear hb4; obtain ⟨_, _, x04, x14, x24, x34, x44, x54⟩ := HT4.out))
        go_wp2
        go_region_held3 (fun w' => w'.cell? ⟨w.heap.size, 0, none⟩ = some (.string s) ∧ w'.cell? ⟨w.heap.size, 1, none⟩ = some (.int .i64 p) ∧ w'.cell? ⟨w.heap.size, 2, none⟩ = some (.bool c) ∧ w'.cell? ⟨w.heap.size + 1, 0, none⟩ = some (.string t) ∧ w'.cell? ⟨w.heap.size + 1, 1, none⟩ = some (.int .i64 q) ∧ w'.cell? ⟨w.heap.size + 1, 2, none⟩ = some (.bool d)) (simp [*, go_sem])
         (first
          | (go_at_call_of 178 (Value.agg #[.string s, .int .i64 p, .bool c]); refine (A1' _).mono ?_; rintro e w5 ⟨rfl, hb5⟩; have HT5 : Hid (Two w w5 s p c t q d) := HT4.out.drew.step hb5; clear hb5; obtain ⟨_, _, x05, x15, x25, x35, x45, x55⟩ := HT5.out)
          | (go_at_call_of 178 (Value.agg #[.string t, .int .i64 q, .bool d]); refine (A2' _).mono ?_; rintro e w6 ⟨rfl, hb6⟩; have HT6 : Hid (Two w w6 s p c t q d) := HT5.out.step hb6; clear hb6; obtain ⟨_, _, x06, x16, x26, x36, x46, x56⟩ := HT6.out))
        go_wp2
        go_roundw
        case rel =>
         refine ⟨k + 1, by go_num, by omega, HT6, fun j hj => ?_⟩
         by_cases z : j = k
         · rw [z, ← HX.out.1, ← HX.out.2, HQ.out]
         · exact HE.out j (by omega)
        case measure => simp [intOf]; omega
      · have HR : Hid (lw s t = 1) := by
         have v := pv_diff DT.out DS.out (fun j hj => (HE.out j hj).symm) (by rw [← HX.out.1, ← HX.out.2]; exact u) hkK
         show lw s t = 1
         rw [HL.out]; unfold cmpI; rw [if_neg (by omega), if_pos (by omega)]
        have u1 : ¬ (x : Int) < (y : Int) := by omega
        have u2 : (y : Int) < (x : Int) := by omega
        clear u
        go_wp2
        go_region_held3 (fun w' => w'.cell? ⟨w.heap.size, 0, none⟩ = some (.string s) ∧ w'.cell? ⟨w.heap.size, 1, none⟩ = some (.int .i64 p) ∧ w'.cell? ⟨w.heap.size, 2, none⟩ = some (.bool c) ∧ w'.cell? ⟨w.heap.size + 1, 0, none⟩ = some (.string t) ∧ w'.cell? ⟨w.heap.size + 1, 1, none⟩ = some (.int .i64 q) ∧ w'.cell? ⟨w.heap.size + 1, 2, none⟩ = some (.bool d)) (simp [*, go_sem])
         (first
          | (go_at_call_of 178 (Value.agg #[.string s, .int .i64 p, .bool c]); refine (A1' _).mono ?_; rintro e w3 ⟨rfl, hb3⟩; have HT3 : Hid (Two w w3 s p c t q d) := HT.out.drew.step hb3; clear hb3; obtain ⟨_, _, x03, x13, x23, x33, x43, x53⟩ := HT3.out)
          | (go_at_call_of 178 (Value.agg #[.string t, .int .i64 q, .bool d]); refine (A2' _).mono ?_; rintro e w4 ⟨rfl, hb4⟩; have HT4 : Hid (Two w w4 s p c t q d) := HT3.out.step hb4; clear hb4; obtain ⟨_, _, x04, x14, x24, x34, x44, x54⟩ := HT4.out))
        go_wp2
        go_region_held3 (fun w' => w'.cell? ⟨w.heap.size, 0, none⟩ = some (.string s) ∧ w'.cell? ⟨w.heap.size, 1, none⟩ = some (.int .i64 p) ∧ w'.cell? ⟨w.heap.size, 2, none⟩ = some (.bool c) ∧ w'.cell? ⟨w.heap.size + 1, 0, none⟩ = some (.string t) ∧ w'.cell? ⟨w.heap.size + 1, 1, none⟩ = some (.int .i64 q) ∧ w'.cell? ⟨w.heap.size + 1, 2, none⟩ = some (.bool d)) (simp [*, go_sem])
         (first
          | (go_at_call_of 178 (Value.agg #[.string s, .int .i64 p, .bool c]); refine (A1' _).mono ?_; rintro e w5 ⟨rfl, hb5⟩; have HT5 : Hid (Two w w5 s p c t q d) := HT4.out.drew.step hb5; clear hb5; obtain ⟨_, _, x05, x15, x25, x35, x45, x55⟩ := HT5.out)
          | (go_at_call_of 178 (Value.agg #[.string t, .int .i64 q, .bool d]); refine (A2' _).mono ?_; rintro e w6 ⟨rfl, hb6⟩; have HT6 : Hid (Two w w6 s p c t q d) := HT5.out.step hb6; clear hb6; obtain ⟨_, _, x06, x16, x26, x36, x46, x56⟩ := HT6.out))
        go_wp2
        go_ret
        exact ⟨by rw [HR.out]; rfl, HT6.out.bel⟩
  · have HR : Hid (lw s t = 0) := by
     have v := pv_ext k HE.out
     obtain rfl : k = K := by omega
     show lw s t = 0
     rw [HL.out, v]; unfold cmpI; rw [if_neg (by omega), if_neg (by omega)]
    have g1 : ¬ k < s.size := by have := HK.out; omega
    have g2 : ¬ k < t.size := by have := HK.out; omega
    go_wp2
    go_ret
    exact ⟨by rw [HR.out]; rfl, HT.out.bel⟩
end Go.Proofs.YtbpfhnndlknloaaGreatDoor
