/-
  What the document's asked, against, With, Half, Nearest and Settle of layer 16 answer.
-/
import Derived.Test.YtfoaeholbidngaaGreatDoorCoM
import Derived.Deep.RegionHeld3
namespace Go.Proofs.YtfoaeholbidngaaGreatDoor
open Go.RowKit

theorem rcheck_z {s : Int} {g n f T : Nat} {L : Int} (h : Fz s g n f T L) {b : Nat} (hb : b < 2 * g) (w : World) : Calls Tryz.prog 61 #[.int .u64 (b : Int), .int .i64 s] w fun e w' => e = .returned (.int .i64 0) ∧ w' = w := by
  rcases h with ⟨rfl, rfl, rfl, rfl, rfl, rfl⟩ | ⟨rfl, rfl, rfl, rfl, rfl, rfl⟩
  · exact rcheck_32 hb w
  · exact rcheck_64 _ w
theorem rmag_z {s : Int} {g n f T : Nat} {L : Int} (h : Fz s g n f T L) {b : Nat} (hb : b < 2 * g) (w : World) : Calls Tryz.prog 27 #[.int .u64 (b : Int), .int .i64 s] w fun e w' => e = .returned (.int .u64 ((mg g b : Nat) : Int)) ∧ w' = w := by
  rcases h with ⟨rfl, rfl, rfl, rfl, rfl, rfl⟩ | ⟨rfl, rfl, rfl, rfl, rfl, rfl⟩
  · exact rmag_32 hb w
  · exact rmag_64 hb w
theorem rof_z {s : Int} {g n f T : Nat} {L : Int} (h : Fz s g n f T L) {b : Nat} (hb : b < 2 * g) (w : World) : Calls Tryz.prog 62 #[.int .u64 (b : Int), .int .i64 s] w fun e w' => e = .returned (.int .i64 (cl n (mg g b))) ∧ w' = w := by
  rcases h with ⟨rfl, rfl, rfl, rfl, rfl, rfl⟩ | ⟨rfl, rfl, rfl, rfl, rfl, rfl⟩
  · exact rof_32 hb w
  · exact rof_64 hb w
theorem mg_self {g b : Nat} (h : b < g) : mg g b = b := Nat.mod_eq_of_lt h

set_option maxRecDepth 100000 in
set_option maxHeartbeats 1000000 in
theorem asked_no {s : Int} (h : Sn s) (t : ByteArray) (p : Int) (c : Bool) (b : Int) (i : Bool) (w : World) : Calls Tryz.prog 33 #[dcV t p c, .int .u64 b, .int .i64 s, .bool i] w fun e w' => e = .returned (.int .i64 5) ∧ Below w.heap.size w w' := by
  have SZ := fun W => rsize_no h W
  unfold dcV
  go_enter Tryz.func33, Tryz.ntmps33
  go_wp2_with fail
  refine (SZ _).mono ?_
  rintro o w1 ⟨rfl, rfl⟩
  go_wp2
  go_ret
  exact ⟨rfl, (Below.refl _ _).alloc (Nat.le_refl _) _⟩
set_option maxRecDepth 100000 in
set_option maxHeartbeats 1000000 in
theorem asked_bad {s : Int} {t : ByteArray} {p : Int} {c : Bool} {b : Nat}  (i : Bool) (w : World)
    (SZ : ∀ W, Calls Tryz.prog 22 #[.int .i64 s] W fun e w' => e = .returned (.bool true) ∧ w' = W)
    (VA : ∀ W, Calls Tryz.prog 23 #[dcV t p c] W fun e w' => e = .returned (.int .i64 1) ∧ Below W.heap.size W w')
    : Calls Tryz.prog 33 #[dcV t p c, .int .u64 (b : Int), .int .i64 s, .bool i] w fun e w' => e = .returned (.int .i64 1) ∧ Below w.heap.size w w' := by
  unfold dcV at *
  have B0 : Hid (Below w.heap.size w (w.alloc (.cells #[.string t, .int .i64 p, .bool c] 23))) := (Below.refl _ _).alloc (Nat.le_refl _) _
  go_enter Tryz.func33, Tryz.ntmps33
  go_wp2_with fail
  refine (SZ _).mono ?_
  rintro o w1 ⟨rfl, rfl⟩
  go_wp2_with fail
  refine (VA _).mono ?_
  rintro o w1 ⟨rfl, b1⟩
  have B1 : Hid (Below w.heap.size w w1) := B0.out.trans (b1.mono B0.out.size)
  clear b1 B0 SZ VA
  go_wp2
  go_ret
  exact ⟨rfl, B1.out⟩
set_option maxRecDepth 100000 in
set_option maxHeartbeats 1000000 in
theorem asked_ck {s : Int} {t : ByteArray} {p : Int} {c : Bool} {b : Nat}  (i : Bool) (w : World)
    (SZ : ∀ W, Calls Tryz.prog 22 #[.int .i64 s] W fun e w' => e = .returned (.bool true) ∧ w' = W)
    (VA : ∀ W, Calls Tryz.prog 23 #[dcV t p c] W fun e w' => e = .returned (.int .i64 0) ∧ Below W.heap.size W w')
    (CK : ∀ W, Calls Tryz.prog 61 #[.int .u64 (b : Int), .int .i64 s] W fun e w' => e = .returned (.int .i64 1) ∧ w' = W)
    : Calls Tryz.prog 33 #[dcV t p c, .int .u64 (b : Int), .int .i64 s, .bool i] w fun e w' => e = .returned (.int .i64 1) ∧ Below w.heap.size w w' := by
  unfold dcV at *
  have B0 : Hid (Below w.heap.size w (w.alloc (.cells #[.string t, .int .i64 p, .bool c] 23))) := (Below.refl _ _).alloc (Nat.le_refl _) _
  go_enter Tryz.func33, Tryz.ntmps33
  go_wp2_with fail
  refine (SZ _).mono ?_
  rintro o w1 ⟨rfl, rfl⟩
  go_wp2_with fail
  refine (VA _).mono ?_
  rintro o w1 ⟨rfl, b1⟩
  have B1 : Hid (Below w.heap.size w w1) := B0.out.trans (b1.mono B0.out.size)
  clear b1 B0 SZ VA
  go_wp2_with fail
  refine (CK _).mono ?_
  rintro o w1 ⟨rfl, rfl⟩
  go_wp2
  go_ret
  exact ⟨rfl, B1.out⟩
set_option maxRecDepth 100000 in
set_option maxHeartbeats 1000000 in
theorem asked_sg {s : Int} {t : ByteArray} {p : Int} {c : Bool} {b : Nat} {m : Nat} (hm : ((m : Int) == (b : Int)) = false) (i : Bool) (w : World)
    (SZ : ∀ W, Calls Tryz.prog 22 #[.int .i64 s] W fun e w' => e = .returned (.bool true) ∧ w' = W)
    (VA : ∀ W, Calls Tryz.prog 23 #[dcV t p c] W fun e w' => e = .returned (.int .i64 0) ∧ Below W.heap.size W w')
    (CK : ∀ W, Calls Tryz.prog 61 #[.int .u64 (b : Int), .int .i64 s] W fun e w' => e = .returned (.int .i64 0) ∧ w' = W)
    (MG : ∀ W, Calls Tryz.prog 27 #[.int .u64 (b : Int), .int .i64 s] W fun e w' => e = .returned (.int .u64 (m : Int)) ∧ w' = W)
    : Calls Tryz.prog 33 #[dcV t p c, .int .u64 (b : Int), .int .i64 s, .bool i] w fun e w' => e = .returned (.int .i64 1) ∧ Below w.heap.size w w' := by
  unfold dcV at *
  have B0 : Hid (Below w.heap.size w (w.alloc (.cells #[.string t, .int .i64 p, .bool c] 23))) := (Below.refl _ _).alloc (Nat.le_refl _) _
  go_enter Tryz.func33, Tryz.ntmps33
  go_wp2_with fail
  refine (SZ _).mono ?_
  rintro o w1 ⟨rfl, rfl⟩
  go_wp2_with fail
  refine (VA _).mono ?_
  rintro o w1 ⟨rfl, b1⟩
  have B1 : Hid (Below w.heap.size w w1) := B0.out.trans (b1.mono B0.out.size)
  clear b1 B0 SZ VA
  go_wp2_with fail
  refine (CK _).mono ?_
  rintro o w1 ⟨rfl, rfl⟩
  go_wp2_with fail
  refine (MG _).mono ?_
  rintro o w1 ⟨rfl, rfl⟩
  go_wp2
  go_ret
  exact ⟨rfl, B1.out⟩
set_option maxRecDepth 100000 in
set_option maxHeartbeats 1000000 in
theorem asked_nan {s : Int} {t : ByteArray} {p : Int} {c : Bool} {b : Nat}  (i : Bool) (w : World)
    (SZ : ∀ W, Calls Tryz.prog 22 #[.int .i64 s] W fun e w' => e = .returned (.bool true) ∧ w' = W)
    (VA : ∀ W, Calls Tryz.prog 23 #[dcV t p c] W fun e w' => e = .returned (.int .i64 0) ∧ Below W.heap.size W w')
    (CK : ∀ W, Calls Tryz.prog 61 #[.int .u64 (b : Int), .int .i64 s] W fun e w' => e = .returned (.int .i64 0) ∧ w' = W)
    (MG : ∀ W, Calls Tryz.prog 27 #[.int .u64 (b : Int), .int .i64 s] W fun e w' => e = .returned (.int .u64 (b : Int)) ∧ w' = W)
    (CL : ∀ W, Calls Tryz.prog 62 #[.int .u64 (b : Int), .int .i64 s] W fun e w' => e = .returned (.int .i64 4) ∧ w' = W)
    : Calls Tryz.prog 33 #[dcV t p c, .int .u64 (b : Int), .int .i64 s, .bool i] w fun e w' => e = .returned (.int .i64 1) ∧ Below w.heap.size w w' := by
  unfold dcV at *
  have B0 : Hid (Below w.heap.size w (w.alloc (.cells #[.string t, .int .i64 p, .bool c] 23))) := (Below.refl _ _).alloc (Nat.le_refl _) _
  go_enter Tryz.func33, Tryz.ntmps33
  go_wp2_with fail
  refine (SZ _).mono ?_
  rintro o w1 ⟨rfl, rfl⟩
  go_wp2_with fail
  refine (VA _).mono ?_
  rintro o w1 ⟨rfl, b1⟩
  have B1 : Hid (Below w.heap.size w w1) := B0.out.trans (b1.mono B0.out.size)
  clear b1 B0 SZ VA
  go_wp2_with fail
  refine (CK _).mono ?_
  rintro o w1 ⟨rfl, rfl⟩
  go_wp2_with fail
  refine (MG _).mono ?_
  rintro o w1 ⟨rfl, rfl⟩
  go_wp2_with fail
  refine (CL _).mono ?_
  rintro o w1 ⟨rfl, rfl⟩
  go_wp2
  go_ret
  exact ⟨rfl, B1.out⟩
set_option maxRecDepth 100000 in
set_option maxHeartbeats 1000000 in
theorem asked_inf0 {s : Int} {t : ByteArray} {p : Int} {c : Bool} {b : Nat}  (w : World)
    (SZ : ∀ W, Calls Tryz.prog 22 #[.int .i64 s] W fun e w' => e = .returned (.bool true) ∧ w' = W)
    (VA : ∀ W, Calls Tryz.prog 23 #[dcV t p c] W fun e w' => e = .returned (.int .i64 0) ∧ Below W.heap.size W w')
    (CK : ∀ W, Calls Tryz.prog 61 #[.int .u64 (b : Int), .int .i64 s] W fun e w' => e = .returned (.int .i64 0) ∧ w' = W)
    (MG : ∀ W, Calls Tryz.prog 27 #[.int .u64 (b : Int), .int .i64 s] W fun e w' => e = .returned (.int .u64 (b : Int)) ∧ w' = W)
    (CL : ∀ W, Calls Tryz.prog 62 #[.int .u64 (b : Int), .int .i64 s] W fun e w' => e = .returned (.int .i64 3) ∧ w' = W)
    : Calls Tryz.prog 33 #[dcV t p c, .int .u64 (b : Int), .int .i64 s, .bool false] w fun e w' => e = .returned (.int .i64 1) ∧ Below w.heap.size w w' := by
  unfold dcV at *
  have B0 : Hid (Below w.heap.size w (w.alloc (.cells #[.string t, .int .i64 p, .bool c] 23))) := (Below.refl _ _).alloc (Nat.le_refl _) _
  go_enter Tryz.func33, Tryz.ntmps33
  go_wp2_with fail
  refine (SZ _).mono ?_
  rintro o w1 ⟨rfl, rfl⟩
  go_wp2_with fail
  refine (VA _).mono ?_
  rintro o w1 ⟨rfl, b1⟩
  have B1 : Hid (Below w.heap.size w w1) := B0.out.trans (b1.mono B0.out.size)
  clear b1 B0 SZ VA
  go_wp2_with fail
  refine (CK _).mono ?_
  rintro o w1 ⟨rfl, rfl⟩
  go_wp2_with fail
  refine (MG _).mono ?_
  rintro o w1 ⟨rfl, rfl⟩
  go_wp2_with fail
  refine (CL _).mono ?_
  rintro o w1 ⟨rfl, rfl⟩
  go_wp2
  go_ret
  exact ⟨rfl, B1.out⟩
set_option maxRecDepth 100000 in
set_option maxHeartbeats 1000000 in
theorem asked_inf1 {s : Int} {t : ByteArray} {p : Int} {c : Bool} {b : Nat}  (w : World)
    (SZ : ∀ W, Calls Tryz.prog 22 #[.int .i64 s] W fun e w' => e = .returned (.bool true) ∧ w' = W)
    (VA : ∀ W, Calls Tryz.prog 23 #[dcV t p c] W fun e w' => e = .returned (.int .i64 0) ∧ Below W.heap.size W w')
    (CK : ∀ W, Calls Tryz.prog 61 #[.int .u64 (b : Int), .int .i64 s] W fun e w' => e = .returned (.int .i64 0) ∧ w' = W)
    (MG : ∀ W, Calls Tryz.prog 27 #[.int .u64 (b : Int), .int .i64 s] W fun e w' => e = .returned (.int .u64 (b : Int)) ∧ w' = W)
    (CL : ∀ W, Calls Tryz.prog 62 #[.int .u64 (b : Int), .int .i64 s] W fun e w' => e = .returned (.int .i64 3) ∧ w' = W)
    : Calls Tryz.prog 33 #[dcV t p c, .int .u64 (b : Int), .int .i64 s, .bool true] w fun e w' => e = .returned (.int .i64 0) ∧ Below w.heap.size w w' := by
  unfold dcV at *
  have B0 : Hid (Below w.heap.size w (w.alloc (.cells #[.string t, .int .i64 p, .bool c] 23))) := (Below.refl _ _).alloc (Nat.le_refl _) _
  go_enter Tryz.func33, Tryz.ntmps33
  go_wp2_with fail
  refine (SZ _).mono ?_
  rintro o w1 ⟨rfl, rfl⟩
  go_wp2_with fail
  refine (VA _).mono ?_
  rintro o w1 ⟨rfl, b1⟩
  have B1 : Hid (Below w.heap.size w w1) := B0.out.trans (b1.mono B0.out.size)
  clear b1 B0 SZ VA
  go_wp2_with fail
  refine (CK _).mono ?_
  rintro o w1 ⟨rfl, rfl⟩
  go_wp2_with fail
  refine (MG _).mono ?_
  rintro o w1 ⟨rfl, rfl⟩
  go_wp2_with fail
  refine (CL _).mono ?_
  rintro o w1 ⟨rfl, rfl⟩
  go_wp2
  go_ret
  exact ⟨rfl, B1.out⟩
set_option maxRecDepth 100000 in
set_option maxHeartbeats 1000000 in
theorem asked_yes {s : Int} {t : ByteArray} {p : Int} {c : Bool} {b : Nat} {l : Int} (l3 : (l == 3) = false) (l4 : (l == 4) = false) (i : Bool) (w : World)
    (SZ : ∀ W, Calls Tryz.prog 22 #[.int .i64 s] W fun e w' => e = .returned (.bool true) ∧ w' = W)
    (VA : ∀ W, Calls Tryz.prog 23 #[dcV t p c] W fun e w' => e = .returned (.int .i64 0) ∧ Below W.heap.size W w')
    (CK : ∀ W, Calls Tryz.prog 61 #[.int .u64 (b : Int), .int .i64 s] W fun e w' => e = .returned (.int .i64 0) ∧ w' = W)
    (MG : ∀ W, Calls Tryz.prog 27 #[.int .u64 (b : Int), .int .i64 s] W fun e w' => e = .returned (.int .u64 (b : Int)) ∧ w' = W)
    (CL : ∀ W, Calls Tryz.prog 62 #[.int .u64 (b : Int), .int .i64 s] W fun e w' => e = .returned (.int .i64 l) ∧ w' = W)
    : Calls Tryz.prog 33 #[dcV t p c, .int .u64 (b : Int), .int .i64 s, .bool i] w fun e w' => e = .returned (.int .i64 0) ∧ Below w.heap.size w w' := by
  unfold dcV at *
  have B0 : Hid (Below w.heap.size w (w.alloc (.cells #[.string t, .int .i64 p, .bool c] 23))) := (Below.refl _ _).alloc (Nat.le_refl _) _
  go_enter Tryz.func33, Tryz.ntmps33
  go_wp2_with fail
  refine (SZ _).mono ?_
  rintro o w1 ⟨rfl, rfl⟩
  go_wp2_with fail
  refine (VA _).mono ?_
  rintro o w1 ⟨rfl, b1⟩
  have B1 : Hid (Below w.heap.size w w1) := B0.out.trans (b1.mono B0.out.size)
  clear b1 B0 SZ VA
  go_wp2_with fail
  refine (CK _).mono ?_
  rintro o w1 ⟨rfl, rfl⟩
  go_wp2_with fail
  refine (MG _).mono ?_
  rintro o w1 ⟨rfl, rfl⟩
  go_wp2_with fail
  refine (CL _).mono ?_
  rintro o w1 ⟨rfl, rfl⟩
  go_wp2
  go_ret
  exact ⟨rfl, B1.out⟩
/-- The errors of a decimal and a float. -/
theorem asked_any {s : Int} {g n f T : Nat} {L : Int} (hz : Fz s g n f T L) {t : ByteArray} (ht : t.size ≤ 9223372036854775807) (p : Int) (c : Bool) {b : Nat} (hb : b < 18446744073709551616) (i : Bool) (w : World) :
    ∃ k : Int, Calls Tryz.prog 33 #[dcV t p c, .int .u64 (b : Int), .int .i64 s, .bool i] w (fun e w' => e = .returned (.int .i64 k) ∧ Below w.heap.size w w') ∧
      ((k = 0 ∧ VD t p c ∧ (b < n ∨ (b = n ∧ i = true))) ∨ (k = 1 ∧ ¬ (VD t p c ∧ (b < n ∨ (b = n ∧ i = true))))) := by
  obtain ⟨_, hg, h2, g0⟩ := fz_parts hz
  have SZ := fun W => rsize_z hz W
  by_cases hv : VD t p c
  · have VA := fun W => rvald_yes hv W
    rcases Nat.lt_or_ge b (2 * g) with h | h
    · have CK := fun W => rcheck_z hz h W
      have MG := fun W => rmag_z hz h W
      have CL := fun W => rof_z hz h W
      rcases Nat.lt_or_ge b g with k | k
      · rw [mg_self k] at MG CL
        rcases Nat.lt_trichotomy b n with q | q | q
        · refine ⟨0, asked_yes ?_ ?_ i w SZ VA CK MG CL, .inl ⟨rfl, hv, .inl q⟩⟩
          · unfold cl
            split
            · rfl
            · rfl
          · unfold cl
            split
            · rfl
            · rfl
        · subst q
          have e : cl b b = 3 := cl_inf (by rcases hz with ⟨_, _, rfl, _⟩ | ⟨_, _, rfl, _⟩ <;> decide)
          rw [e] at CL
          cases i
          · exact ⟨1, asked_inf0 w SZ VA CK MG CL, .inr ⟨rfl, fun z => by
              rcases z.2 with y | ⟨_, y⟩
              · omega
              · cases y⟩⟩
          · exact ⟨0, asked_inf1 w SZ VA CK MG CL, .inl ⟨rfl, hv, .inr ⟨rfl, rfl⟩⟩⟩
        · rw [cl_nan q] at CL
          exact ⟨1, asked_nan i w SZ VA CK MG CL, .inr ⟨rfl, fun z => by omega⟩⟩
      · have hm := mg_lt g0 b
        refine ⟨1, asked_sg (m := mg g b) ?_ i w SZ VA CK MG, .inr ⟨rfl, fun z => by omega⟩⟩
        rw [beq_eq_false_iff_ne]
        omega
    · have z32 : s = 32 ∧ 4294967296 ≤ b := by
        rcases hz with ⟨rfl, rfl, _⟩ | ⟨_, rfl, _⟩
        · exact ⟨rfl, h⟩
        · omega
      obtain ⟨rfl, h4⟩ := z32
      exact ⟨1, asked_ck i w SZ VA (fun W => rcheck_big h4 W), .inr ⟨rfl, fun z => by omega⟩⟩
  · exact ⟨1, asked_bad i w SZ (fun W => rvald_no ht hv W), .inr ⟨rfl, fun z => hv z.1⟩⟩

set_option maxRecDepth 100000 in
set_option maxHeartbeats 1000000 in
theorem near_nil (w : World) : Calls Tryz.prog 67 #[dcV ⟨#[]⟩ 0 false] w fun e w' => e = .returned (dcV ⟨#[]⟩ (nrP 0) false) ∧ Below w.heap.size w w' := by
  rw [show nrP 0 = 0 from rfl]
  unfold dcV
  go_enter Tryz.func67, Tryz.ntmps67
  go_wp2
  refine bodyPost_ret (v := .agg #[.string ⟨#[]⟩, .int .i64 0, .bool false]) (by simp [results, Tryz.results67, go_sem]) rfl ⟨rfl, ((Below.refl _ _).alloc (Nat.le_refl _) _).alloc (by simp) _⟩
theorem ba_none16 {s : ByteArray} (h : s.size = 0) : s = ⟨#[]⟩ := by
  apply ByteArray.ext
  exact Array.eq_empty_of_size_eq_zero h
theorem VD.dg {s : ByteArray} {p : Int} {c : Bool} (h : VD s p c) : DG s ∧ s.size ≤ 801 := by
  rcases h with ⟨h, _⟩ | h
  · exact ⟨fun k hk => absurd hk (by omega), by omega⟩
  · exact ⟨h.dg, by have := h.len; omega⟩
theorem near_any {s : ByteArray} {p : Int} {c : Bool} (h : VD s p c) (w : World) : Calls Tryz.prog 67 #[dcV s p c] w fun e w' => e = .returned (dcV s (nrP p) c) ∧ Below w.heap.size w w' := by
  rcases h with ⟨h, rfl, rfl⟩ | h
  · obtain rfl := ba_none16 h
    exact near_nil w
  · exact near14 h.pos p c w

set_option maxRecDepth 100000 in
set_option maxHeartbeats 2000000 in
theorem against_ok {s : ByteArray} {p : Int} {c : Bool} (h : VD s p c) {w : World} {v1 v2 : Value} {N D : Nat} (h1 : Big.NatV w v1 N) (h2 : Big.NatV w v2 D) (f1 : Fits 300 N) (f2 : Fits 300 D) :
    Calls Tryz.prog 35 #[dcV s p c, v1, v2] w fun e w' => e = .returned (.int .i64 (oc (frN s (nrP p)) (frD s (nrP p)) c N D)) ∧ Below w.heap.size w w' := by
  have NR := fun W => near_any h W
  have FR := fun W => frac14 h.dg.2 h.dg.1 c (nrP_in p).1 (nrP_in p).2 W
  have gN := frN_fits h.dg.2 h.dg.1 (nrP_in p).2
  have gD := frD_fits h.dg.2 (nrP_in p).1
  have OC : Hid (∀ o, o = ord (frN s (nrP p) * D) (N * frD s (nrP p)) → oc (frN s (nrP p)) (frD s (nrP p)) c N D = if o = 0 ∧ c = true then 1 else o) := fun o ho => by rw [ho]; rfl
  have HF : Hid (Fits 300 N ∧ Fits 300 D ∧ Fits 256 (frN s (nrP p)) ∧ Fits 256 (frD s (nrP p))) := ⟨f1, f2, gN, gD⟩
  generalize hoc : oc (frN s (nrP p)) (frD s (nrP p)) c N D = oo at *
  clear hoc f1 f2 gN gD h
  generalize hq : nrP p = q at *
  clear hq
  generalize frN s q = A at *
  generalize frD s q = E at *
  unfold dcV at *
  have H0 : Hid (Big.NatV (w.alloc (.cells #[.string s, .int .i64 p, .bool c] 23)) v1 N ∧ Big.NatV (w.alloc (.cells #[.string s, .int .i64 p, .bool c] 23)) v2 D ∧ DcB (w.alloc (.cells #[.string s, .int .i64 p, .bool c] 23)) w.heap.size (.string s) (.int .i64 p) (.bool c) ∧ Below w.heap.size w (w.alloc (.cells #[.string s, .int .i64 p, .bool c] 23))) := ⟨h1.below ((Below.refl _ _).alloc (Nat.le_refl _) _), h2.below ((Below.refl _ _).alloc (Nat.le_refl _) _), DcB.new w _ _ _ _, (Below.refl _ _).alloc (Nat.le_refl _) _⟩
  clear h1 h2
  go_enter Tryz.func35, Tryz.ntmps35
  go_wp2_with fail
  refine (NR _).mono ?_
  rintro o w1 ⟨rfl, b1⟩
  have H1 : Hid (Big.NatV w1 v1 N ∧ Big.NatV w1 v2 D ∧ DcB w1 w.heap.size (.string s) (.int .i64 p) (.bool c) ∧ Below w.heap.size w w1) := ⟨H0.out.1.below b1, H0.out.2.1.below b1, H0.out.2.2.1.step b1, H0.out.2.2.2.trans (b1.mono H0.out.2.2.2.size)⟩
  clear b1 H0 NR
  go_wp2_with fail
  refine (FR _).mono ?_
  rintro o w2 ⟨va, vb, rfl, na, nb, b2⟩
  have H2 : Hid (Big.NatV w2 v1 N ∧ Big.NatV w2 v2 D ∧ DcB w2 w.heap.size (.string s) (.int .i64 p) (.bool c) ∧ Below w.heap.size w w2 ∧ Big.NatV w2 va A ∧ Big.NatV w2 vb E) := ⟨H1.out.1.below b2, H1.out.2.1.below b2, H1.out.2.2.1.step b2, H1.out.2.2.2.trans (b2.mono H1.out.2.2.2.size), na, nb⟩
  have T1 := times_nat H2.out.2.2.2.2.1 H2.out.2.1 (HF.out.2.2.1.up (by omega)) (HF.out.2.1.up (by omega))
  clear b2 H1 FR na nb
  go_wp2_with fail
  refine T1.mono ?_
  rintro o w3 ⟨v3, rfl, n3, b3⟩
  have H3 : Hid (Big.NatV w3 v1 N ∧ Big.NatV w3 vb E ∧ DcB w3 w.heap.size (.string s) (.int .i64 p) (.bool c) ∧ Below w.heap.size w w3 ∧ Big.NatV w3 v3 (A * D)) := ⟨H2.out.1.below b3, H2.out.2.2.2.2.2.below b3, H2.out.2.2.1.step b3, H2.out.2.2.2.1.trans (b3.mono H2.out.2.2.2.1.size), n3⟩
  have T2 := times_nat H3.out.1 H3.out.2.1 (HF.out.1.up (by omega)) (HF.out.2.2.2.up (by omega))
  clear b3 H2 T1 n3
  go_wp2_with fail
  refine T2.mono ?_
  rintro o w4 ⟨v4, rfl, n4, b4⟩
  have H4 : Hid (DcB w4 w.heap.size (.string s) (.int .i64 p) (.bool c) ∧ Below w.heap.size w w4 ∧ Big.NatV w4 v3 (A * D) ∧ Big.NatV w4 v4 (N * E)) := ⟨H3.out.2.2.1.step b4, H3.out.2.2.2.1.trans (b4.mono H3.out.2.2.2.1.size), H3.out.2.2.2.2.below b4, n4⟩
  have CM := bcmp_nat H4.out.2.2.1 H4.out.2.2.2
  clear b4 H3 T2 n4
  go_wp2_with fail
  refine CM.mono ?_
  rintro o w5 ⟨rfl, b5⟩
  have H5 : Hid (DcB w5 w.heap.size (.string s) (.int .i64 p) (.bool c) ∧ Below w.heap.size w w5) := ⟨H4.out.1.step b5, H4.out.2.1.trans (b5.mono H4.out.2.1.size)⟩
  clear b5 H4 CM
  obtain ⟨_, a0, a1, a2, _, _, _⟩ := H5.out.1
  have hoo := OC.out _ rfl
  generalize ord (A * D) (N * E) = od at *
  have HOO : Hid _ := hoo
  clear hoo OC
  by_cases z : od = 0
  · subst z
    cases c
    · go_wp2
      go_ret
      exact ⟨congrArg (fun x : Int => Ending.returned (.int .i64 x)) (by have := HOO.out; simpa using this.symm), H5.out.2⟩
    · go_wp2
      go_ret
      exact ⟨congrArg (fun x : Int => Ending.returned (.int .i64 x)) (by have := HOO.out; simpa using this.symm), H5.out.2⟩
  · have zb : (od == 0) = false := by rw [beq_eq_false_iff_ne]; exact z
    go_wp2
    go_ret
    exact ⟨congrArg (fun x : Int => Ending.returned (.int .i64 x)) (by have := HOO.out; rw [if_neg (fun y => z y.1)] at this; exact this.symm), H5.out.2⟩

/-- The value of a finite float: the fraction in least terms. -/
theorem value16 {s : Int} {g n f T : Nat} {L : Int} (hz : Fz s g n f T L) {b : Nat} (hm : b < n) (W : World) : Calls Tryz.prog 34 #[.int .u64 (b : Int), .int .i64 s] W fun x w' => ∃ (v1 v2 : Value) (N D : Nat), x = .returned (.tuple #[.bool false, v1, v2, .int .i64 0]) ∧ NatV w' v1 N ∧ NatV w' v2 D ∧ Frc N D (mt f b) (xp f L b) ∧ Below W.heap.size W w' := by
  obtain ⟨_, ng', hg, g0⟩ := fz_parts hz
  have e1 : mg g b = b := Nat.mod_eq_of_lt (by omega)
  have e2 : ng g b = false := by unfold ng; rw [decide_eq_false_iff_not]; omega
  have H := fun W => rfin_yes hz (b := b) (by omega) (by rw [e1]; exact hm) W
  rw [e1, e2] at H
  obtain ⟨p1, p2, p3⟩ := parts_lim hz hm
  rcases cl_cases n b with ⟨q, k⟩ | ⟨_, _, k⟩ | ⟨_, q, k⟩ | ⟨q, k⟩
  · rw [k] at H
    unfold uM uE at H
    rw [k, if_neg (by decide), if_neg (by decide)] at H
    refine (rvalue_walk (w := W) (x2 := 0) (x3 := 0) (by decide) (by decide) (by decide) H).mono ?_
    rintro o w' ⟨v1, v2, N, D, rfl, n1, n2, h, hb⟩
    refine ⟨v1, v2, N, D, rfl, n1, n2, ?_, hb⟩
    rw [q, mt_nought]
    exact Frc.none _ h
  · rw [k] at H
    unfold uM uE at H
    rw [k, if_pos rfl, if_pos rfl] at H
    exact rvalue_walk (w := W) (by omega) (by omega) (by omega) H
  · omega
  · omega
theorem Fits.nat {w : World} {v : Value} {X : Nat} (h : NatV w v X) : Fits 300 X := (of_nat h).2.1.up (by omega)
theorem slice_of {w : World} {v : Value} {X : Nat} (h : NatV w v X) : ∃ ao n c, v = .slice ao n c := (of_nat h).1
set_option maxRecDepth 100000 in
set_option maxHeartbeats 1000000 in
theorem with_err {s k : Int} (k0 : (k == 0) = false) {t : ByteArray} {p : Int} {c : Bool} {b : Nat} {w : World}
    (AS : ∀ W, Calls Tryz.prog 33 #[dcV t p c, .int .u64 (b : Int), .int .i64 s, .bool false] W fun e w' => e = .returned (.int .i64 k) ∧ Below W.heap.size W w') :
    Calls Tryz.prog 9 #[dcV t p c, .int .u64 (b : Int), .int .i64 s] w fun e w' => e = .returned (.tuple #[.int .i64 0, .int .i64 k]) ∧ Below w.heap.size w w' := by
  unfold dcV at *
  have B0 : Hid (Below w.heap.size w (w.alloc (.cells #[.string t, .int .i64 p, .bool c] 23))) := (Below.refl _ _).alloc (Nat.le_refl _) _
  go_enter Tryz.func9, Tryz.ntmps9
  go_wp2_with fail
  refine (AS _).mono ?_
  rintro o w1 ⟨rfl, b1⟩
  have B1 : Hid (Below w.heap.size w w1) := B0.out.trans (b1.mono B0.out.size)
  clear b1 B0 AS
  go_wp2
  go_ret2
  exact ⟨rfl, B1.out⟩
set_option maxRecDepth 100000 in
set_option maxHeartbeats 1000000 in
theorem half16_err {s k : Int} (k0 : (k == 0) = false) {t : ByteArray} {p : Int} {c : Bool} {b : Nat} {w : World}
    (AS : ∀ W, Calls Tryz.prog 33 #[dcV t p c, .int .u64 (b : Int), .int .i64 s, .bool false] W fun e w' => e = .returned (.int .i64 k) ∧ Below W.heap.size W w') :
    Calls Tryz.prog 11 #[dcV t p c, .int .u64 (b : Int), .int .i64 s] w fun e w' => e = .returned (.tuple #[.int .i64 0, .int .i64 k]) ∧ Below w.heap.size w w' := by
  unfold dcV at *
  have B0 : Hid (Below w.heap.size w (w.alloc (.cells #[.string t, .int .i64 p, .bool c] 23))) := (Below.refl _ _).alloc (Nat.le_refl _) _
  go_enter Tryz.func11, Tryz.ntmps11
  go_wp2_with fail
  refine (AS _).mono ?_
  rintro o w1 ⟨rfl, b1⟩
  have B1 : Hid (Below w.heap.size w w1) := B0.out.trans (b1.mono B0.out.size)
  clear b1 B0 AS
  go_wp2
  go_ret2
  exact ⟨rfl, B1.out⟩
set_option maxRecDepth 100000 in
set_option maxHeartbeats 1000000 in
theorem settle_err {s k : Int} (k0 : (k == 0) = false) {t : ByteArray} {p : Int} {c : Bool} {b : Nat} {w : World}
    (AS : ∀ W, Calls Tryz.prog 33 #[dcV t p c, .int .u64 (b : Int), .int .i64 s, .bool true] W fun e w' => e = .returned (.int .i64 k) ∧ Below W.heap.size W w') :
    Calls Tryz.prog 17 #[dcV t p c, .int .u64 (b : Int), .int .i64 s] w fun e w' => e = .returned (.tuple #[.int .u64 0, .int .i64 k]) ∧ Below w.heap.size w w' := by
  unfold dcV at *
  have B0 : Hid (Below w.heap.size w (w.alloc (.cells #[.string t, .int .i64 p, .bool c] 23))) := (Below.refl _ _).alloc (Nat.le_refl _) _
  go_enter Tryz.func17, Tryz.ntmps17
  go_wp2_with fail
  refine (AS _).mono ?_
  rintro o w1 ⟨rfl, b1⟩
  have B1 : Hid (Below w.heap.size w w1) := B0.out.trans (b1.mono B0.out.size)
  clear b1 B0 AS
  go_wp2
  go_ret2
  exact ⟨rfl, B1.out⟩
set_option maxRecDepth 100000 in
set_option maxHeartbeats 2000000 in
theorem with_ok {s : Int} {g n f T : Nat} {L : Int} (hz : Fz s g n f T L) {t : ByteArray} {p : Int} {c : Bool} (h : VD t p c) {b : Nat} (hb : b < n) {w : World}
    (AS : ∀ W, Calls Tryz.prog 33 #[dcV t p c, .int .u64 (b : Int), .int .i64 s, .bool false] W fun e w' => e = .returned (.int .i64 0) ∧ Below W.heap.size W w') :
    Calls Tryz.prog 9 #[dcV t p c, .int .u64 (b : Int), .int .i64 s] w fun e w' => ∃ N D, e = .returned (.tuple #[.int .i64 (oc (frN t (nrP p)) (frD t (nrP p)) c N D), .int .i64 0]) ∧ Frc N D (mt f b) (xp f L b) ∧ Below w.heap.size w w' := by
  have VV := fun W => value16 hz hb W
  have HV : Hid (VD t p c) := h
  unfold dcV at AS ⊢
  have H0 : Hid (DcB (w.alloc (.cells #[.string t, .int .i64 p, .bool c] 23)) w.heap.size (.string t) (.int .i64 p) (.bool c) ∧ Below w.heap.size w (w.alloc (.cells #[.string t, .int .i64 p, .bool c] 23))) := ⟨DcB.new w _ _ _ _, (Below.refl _ _).alloc (Nat.le_refl _) _⟩
  clear h hb
  go_enter Tryz.func9, Tryz.ntmps9
  go_wp2_with fail
  refine (AS _).mono ?_
  rintro o w1 ⟨rfl, b1⟩
  have H1 : Hid (DcB w1 w.heap.size (.string t) (.int .i64 p) (.bool c) ∧ Below w.heap.size w w1) := ⟨H0.out.1.step b1, H0.out.2.trans (b1.mono H0.out.2.size)⟩
  clear b1 H0 AS
  go_wp2_with fail
  refine (VV _).mono ?_
  rintro o w2 ⟨v1, v2, N, D, rfl, n1, n2, fr, b2⟩
  have H2 : Hid (DcB w2.drew w.heap.size (.string t) (.int .i64 p) (.bool c) ∧ Below w.heap.size w w2.drew ∧ NatV w2.drew v1 N ∧ NatV w2.drew v2 D) := ⟨(H1.out.1.step b2).step (Below.refl _ _).drew, (H1.out.2.trans (b2.mono H1.out.2.size)).drew, n1.below (Below.refl _ _).drew, n2.below (Below.refl _ _).drew⟩
  have HFR : Hid (Frc N D (mt f b) (xp f L b) ∧ Fits 300 N ∧ Fits 300 D) := ⟨fr, Fits.nat n1, Fits.nat n2⟩
  obtain ⟨x1, y1, z1, e1⟩ := slice_of n1
  obtain ⟨x2, y2, z2, e2⟩ := slice_of n2
  subst e1
  subst e2
  have D2 := H1.out.1.step b2
  clear b2 H1 VV fr n1 n2
  obtain ⟨l2, a0, a1, a2, _, _, _⟩ := D2
  go_upto_region 5 with fail
  have O1 := (of_nat H2.out.2.2.1).2.2
  go_region_held3 (fun w' => w'.cell? ⟨w.heap.size, 0, none⟩ = some (.string t) ∧ w'.cell? ⟨w.heap.size, 1, none⟩ = some (.int .i64 p) ∧ w'.cell? ⟨w.heap.size, 2, none⟩ = some (.bool c)) (simp [*, go_sem])
    (first
      | (go_at_call_of 36 (Value.slice x1 y1 z1); refine O1.mono ?_; rintro o w3 ⟨v3, rfl, n3, b3⟩; have H3 : Hid (Big.NatV w3 v3 N ∧ NatV w3 (.slice x2 y2 z2) D ∧ DcB w3 w.heap.size (.string t) (.int .i64 p) (.bool c) ∧ Below w.heap.size w w3) := ⟨n3, H2.out.2.2.2.below b3, H2.out.1.step b3, H2.out.2.1.trans (b3.mono H2.out.2.1.size)⟩; have O2 := (of_nat H3.out.2.1).2.2; clear b3 n3; obtain ⟨l3, c0, c1, c2, _, _, _⟩ := H3.out.2.2.1)
      | (go_at_call_of 36 (Value.slice x2 y2 z2); refine O2.mono ?_; rintro o w4 ⟨v4, rfl, n4, b4⟩; have H4 : Hid (Big.NatV w4 v3 N ∧ Big.NatV w4 v4 D ∧ DcB w4 w.heap.size (.string t) (.int .i64 p) (.bool c) ∧ Below w.heap.size w w4) := ⟨H3.out.1.below b4, n4, H3.out.2.2.1.step b4, H3.out.2.2.2.trans (b4.mono H3.out.2.2.2.size)⟩; clear b4 n4; have AG := against_ok HV.out H4.out.1 H4.out.2.1 HFR.out.2.1 HFR.out.2.2; unfold dcV at AG; obtain ⟨l4, d0, d1, d2, _, _, _⟩ := H4.out.2.2.1)
      | (go_at_call 35; refine AG.mono ?_; rintro o w5 ⟨rfl, b5⟩; have H5 : Hid (DcB w5 w.heap.size (.string t) (.int .i64 p) (.bool c) ∧ Below w.heap.size w w5) := ⟨H4.out.2.2.1.step b5, H4.out.2.2.2.trans (b5.mono H4.out.2.2.2.size)⟩; clear b5; obtain ⟨l5, e0, e1, e2, _, _, _⟩ := H5.out.1))
  go_wp2
  go_ret2
  exact ⟨N, D, rfl, HFR.out.1, H5.out.2⟩
set_option maxRecDepth 100000 in
set_option maxHeartbeats 2000000 in
theorem half16_ok {s : Int} {g n f T : Nat} {L : Int} (hz : Fz s g n f T L) {t : ByteArray} {p : Int} {c : Bool} (h : VD t p c) {b : Nat} (hb : b < n) {w : World}
    (AS : ∀ W, Calls Tryz.prog 33 #[dcV t p c, .int .u64 (b : Int), .int .i64 s, .bool false] W fun e w' => e = .returned (.int .i64 0) ∧ Below W.heap.size W w') :
    Calls Tryz.prog 11 #[dcV t p c, .int .u64 (b : Int), .int .i64 s] w fun e w' => ∃ N D, e = .returned (.tuple #[.int .i64 (oc (frN t (nrP p)) (frD t (nrP p)) c N D), .int .i64 0]) ∧ Frc N D (hM f b) (hX f L b) ∧ Below w.heap.size w w' := by
  have VV := fun W => half14 hz hb W
  have HV : Hid (VD t p c) := h
  unfold dcV at AS ⊢
  have H0 : Hid (DcB (w.alloc (.cells #[.string t, .int .i64 p, .bool c] 23)) w.heap.size (.string t) (.int .i64 p) (.bool c) ∧ Below w.heap.size w (w.alloc (.cells #[.string t, .int .i64 p, .bool c] 23))) := ⟨DcB.new w _ _ _ _, (Below.refl _ _).alloc (Nat.le_refl _) _⟩
  clear h hb
  go_enter Tryz.func11, Tryz.ntmps11
  go_wp2_with fail
  refine (AS _).mono ?_
  rintro o w1 ⟨rfl, b1⟩
  have H1 : Hid (DcB w1 w.heap.size (.string t) (.int .i64 p) (.bool c) ∧ Below w.heap.size w w1) := ⟨H0.out.1.step b1, H0.out.2.trans (b1.mono H0.out.2.size)⟩
  clear b1 H0 AS
  go_wp2_with fail
  refine (VV _).mono ?_
  rintro o w2 ⟨v1, v2, N, D, rfl, n1, n2, fr, b2⟩
  have H2 : Hid (DcB w2.drew w.heap.size (.string t) (.int .i64 p) (.bool c) ∧ Below w.heap.size w w2.drew ∧ NatV w2.drew v1 N ∧ NatV w2.drew v2 D) := ⟨(H1.out.1.step b2).step (Below.refl _ _).drew, (H1.out.2.trans (b2.mono H1.out.2.size)).drew, n1.below (Below.refl _ _).drew, n2.below (Below.refl _ _).drew⟩
  have HFR : Hid (Frc N D (hM f b) (hX f L b) ∧ Fits 300 N ∧ Fits 300 D) := ⟨fr, Fits.nat n1, Fits.nat n2⟩
  obtain ⟨x1, y1, z1, e1⟩ := slice_of n1
  obtain ⟨x2, y2, z2, e2⟩ := slice_of n2
  subst e1
  subst e2
  have D2 := H1.out.1.step b2
  clear b2 H1 VV fr n1 n2
  obtain ⟨l2, a0, a1, a2, _, _, _⟩ := D2
  go_upto_region 5 with fail
  have O1 := (of_nat H2.out.2.2.1).2.2
  go_region_held3 (fun w' => w'.cell? ⟨w.heap.size, 0, none⟩ = some (.string t) ∧ w'.cell? ⟨w.heap.size, 1, none⟩ = some (.int .i64 p) ∧ w'.cell? ⟨w.heap.size, 2, none⟩ = some (.bool c)) (simp [*, go_sem])
    (first
      | (go_at_call_of 36 (Value.slice x1 y1 z1); refine O1.mono ?_; rintro o w3 ⟨v3, rfl, n3, b3⟩; have H3 : Hid (Big.NatV w3 v3 N ∧ NatV w3 (.slice x2 y2 z2) D ∧ DcB w3 w.heap.size (.string t) (.int .i64 p) (.bool c) ∧ Below w.heap.size w w3) := ⟨n3, H2.out.2.2.2.below b3, H2.out.1.step b3, H2.out.2.1.trans (b3.mono H2.out.2.1.size)⟩; have O2 := (of_nat H3.out.2.1).2.2; clear b3 n3; obtain ⟨l3, c0, c1, c2, _, _, _⟩ := H3.out.2.2.1)
      | (go_at_call_of 36 (Value.slice x2 y2 z2); refine O2.mono ?_; rintro o w4 ⟨v4, rfl, n4, b4⟩; have H4 : Hid (Big.NatV w4 v3 N ∧ Big.NatV w4 v4 D ∧ DcB w4 w.heap.size (.string t) (.int .i64 p) (.bool c) ∧ Below w.heap.size w w4) := ⟨H3.out.1.below b4, n4, H3.out.2.2.1.step b4, H3.out.2.2.2.trans (b4.mono H3.out.2.2.2.size)⟩; clear b4 n4; have AG := against_ok HV.out H4.out.1 H4.out.2.1 HFR.out.2.1 HFR.out.2.2; unfold dcV at AG; obtain ⟨l4, d0, d1, d2, _, _, _⟩ := H4.out.2.2.1)
      | (go_at_call 35; refine AG.mono ?_; rintro o w5 ⟨rfl, b5⟩; have H5 : Hid (DcB w5 w.heap.size (.string t) (.int .i64 p) (.bool c) ∧ Below w.heap.size w w5) := ⟨H4.out.2.2.1.step b5, H4.out.2.2.2.trans (b5.mono H4.out.2.2.2.size)⟩; clear b5; obtain ⟨l5, e0, e1, e2, _, _, _⟩ := H5.out.1))
  go_wp2
  go_ret2
  exact ⟨N, D, rfl, HFR.out.1, H5.out.2⟩

set_option maxRecDepth 100000 in
set_option maxHeartbeats 1000000 in
theorem nearest16_of {s : Int} {t : ByteArray} {p : Int} {c : Bool} {x k : Int} {w : World}
    (NR : ∀ W, Calls Tryz.prog 44 #[dcV t p c, .int .i64 s] W fun e w' => e = .returned (.tuple #[.int .u64 x, .int .i64 k]) ∧ Below W.heap.size W w') :
    Calls Tryz.prog 15 #[dcV t p c, .int .i64 s] w fun e w' => e = .returned (.tuple #[.int .u64 x, .int .i64 k]) ∧ Below w.heap.size w w' := by
  unfold dcV at *
  have B0 : Hid (Below w.heap.size w (w.alloc (.cells #[.string t, .int .i64 p, .bool c] 23))) := (Below.refl _ _).alloc (Nat.le_refl _) _
  go_enter Tryz.func15, Tryz.ntmps15
  go_wp2_with fail
  refine (NR _).mono ?_
  rintro o w1 ⟨rfl, b1⟩
  have B1 : Hid (Below w.heap.size w w1) := B0.out.trans (b1.mono B0.out.size)
  clear b1 B0 NR
  go_wp2
  go_ret2
  exact ⟨rfl, B1.out⟩
/-- What a decimal is rounded to, and the error. -/
def nrX (f T : Nat) (L : Int) (s : ByteArray) (p : Int) (c : Bool) : Nat × Bool := if s.size = 0 then (0, false) else rdA f T L (frN s (nrP p)) (frD s (nrP p)) 0 c
theorem nearest16 {z : Int} {g n f T : Nat} {L : Int} (hz : Fz z g n f T L) {s : ByteArray} {p : Int} {c : Bool} (h : VD s p c) (w : World) : Calls Tryz.prog 15 #[dcV s p c, .int .i64 z] w fun e w' => e = .returned (.tuple #[.int .u64 (((nrX f T L s p c).1 : Nat) : Int), .int .i64 (if (nrX f T L s p c).2 then 4 else 0)]) ∧ Below w.heap.size w w' := by
  rcases h with ⟨h, rfl, rfl⟩ | h
  · obtain rfl := ba_none16 h
    exact nearest16_of fun W => nearest_none hz W
  · have e : nrX f T L s p c = rdA f T L (frN s (nrP p)) (frD s (nrP p)) 0 c := by unfold nrX; rw [if_neg (by have := h.pos; omega)]
    rw [e]
    exact nearest16_of fun W => nearest14 hz h W
theorem nearest16_bad {z : Int} {g n f T : Nat} {L : Int} (hz : Fz z g n f T L) {s : ByteArray} {p : Int} {c : Bool} (hs : s.size ≤ 9223372036854775807) (h : ¬ VD s p c) (w : World) : Calls Tryz.prog 15 #[dcV s p c, .int .i64 z] w fun e w' => e = .returned (.tuple #[.int .u64 0, .int .i64 1]) ∧ Below w.heap.size w w' := nearest16_of fun W => nearest_bad hz hs h W
theorem nearest16_no {z : Int} (h : Sn z) (s : ByteArray) (p : Int) (c : Bool) (w : World) : Calls Tryz.prog 15 #[dcV s p c, .int .i64 z] w fun e w' => e = .returned (.tuple #[.int .u64 0, .int .i64 5]) ∧ Below w.heap.size w w' := nearest16_of fun W => nearest_no h s p c W
set_option maxRecDepth 100000 in
set_option maxHeartbeats 1000000 in
theorem settle_ok {s : Int} {t : ByteArray} {p : Int} {c : Bool} {b : Nat} {x k : Int} {w : World}
    (AS : ∀ W, Calls Tryz.prog 33 #[dcV t p c, .int .u64 (b : Int), .int .i64 s, .bool true] W fun e w' => e = .returned (.int .i64 0) ∧ Below W.heap.size W w')
    (NR : ∀ W, Calls Tryz.prog 15 #[dcV t p c, .int .i64 s] W fun e w' => e = .returned (.tuple #[.int .u64 x, .int .i64 k]) ∧ Below W.heap.size W w') :
    Calls Tryz.prog 17 #[dcV t p c, .int .u64 (b : Int), .int .i64 s] w fun e w' => e = .returned (.tuple #[.int .u64 x, .int .i64 k]) ∧ Below w.heap.size w w' := by
  unfold dcV at *
  have H0 : Hid (DcB (w.alloc (.cells #[.string t, .int .i64 p, .bool c] 23)) w.heap.size (.string t) (.int .i64 p) (.bool c) ∧ Below w.heap.size w (w.alloc (.cells #[.string t, .int .i64 p, .bool c] 23))) := ⟨DcB.new w _ _ _ _, (Below.refl _ _).alloc (Nat.le_refl _) _⟩
  go_enter Tryz.func17, Tryz.ntmps17
  go_wp2_with fail
  refine (AS _).mono ?_
  rintro o w1 ⟨rfl, b1⟩
  have H1 : Hid (DcB w1 w.heap.size (.string t) (.int .i64 p) (.bool c) ∧ Below w.heap.size w w1) := ⟨H0.out.1.step b1, H0.out.2.trans (b1.mono H0.out.2.size)⟩
  clear b1 H0 AS
  obtain ⟨_, a0, a1, a2, _, _, _⟩ := H1.out.1
  go_wp2_with fail
  refine (NR _).mono ?_
  rintro o w2 ⟨rfl, b2⟩
  have B2 : Hid (Below w.heap.size w w2) := H1.out.2.trans (b2.mono H1.out.2.size)
  clear b2 H1 NR
  go_wp2
  go_ret2
  exact ⟨rfl, B2.out⟩

/-- A number times ten to the e as a decimal: its value. -/
theorem row_val {X K c : Nat} (hX : X < 10 ^ K) (hc : c ≤ K) (hn : ∀ i, c ≤ i → i < K → dgt (rowText 10 X K) i = 48) {u : ByteArray} (hu : (rowText 10 X K).extract 0 c = u) (e : Int) : frN u ((K : Int) + e) * 10 ^ (-e).toNat = X * 10 ^ e.toNat * frD u ((K : Int) + e) := by
  have sz : u.size = c := by rw [← hu, ByteArray.size_extract, rowText_size]; omega
  have e2 : dvA u 0 c = dvA (rowText 10 X K) 0 c := by rw [← hu]; exact dvA_same fun i q => by rw [Nat.zero_add]; exact dgt_pre (by rw [rowText_size]; omega) q
  have q := row_cut hX hc hn
  unfold frN frD
  rw [sz, e2]
  generalize dvA (rowText 10 X K) 0 c = A at *
  rw [q, Nat.mul_assoc, Nat.mul_assoc, Nat.mul_assoc, ← Nat.pow_add, ← Nat.pow_add, ← Nat.pow_add]
  congr 2
  omega
theorem val_up {X m j n d : Nat} (h : X = m * 2 ^ j) (q : n * 10 ^ (0 : Nat) = X * 10 ^ (0 : Nat) * d) : vE n d 0 m (j : Int) := by
  refine ⟨0, Int.le_refl _, by omega, ?_⟩
  rw [ev_self]
  unfold ev
  rw [show ((j : Int) - 0).toNat = j from by omega, ← h]
  rw [Nat.pow_zero, Nat.mul_one, Nat.mul_one] at q
  rw [q, Nat.mul_comm]
theorem val_dn {X m j n d : Nat} (h : X = m * 5 ^ j) (q : n * 10 ^ j = X * 10 ^ (0 : Nat) * d) : vE n d 0 m (-(j : Int)) := by
  refine ⟨-(j : Int), by omega, Int.le_refl _, ?_⟩
  rw [ev_self]
  unfold ev
  rw [show (0 - -(j : Int)).toNat = j from by omega]
  rw [Nat.pow_zero, Nat.mul_one, h, show (10 : Nat) = 2 * 5 from rfl, Nat.mul_pow, ← Nat.mul_assoc, Nat.mul_right_comm m] at q
  rw [Nat.mul_comm d m]
  exact Nat.eq_of_mul_eq_mul_right (Nat.pow_pos (by decide)) q
end Go.Proofs.YtfoaeholbidngaaGreatDoor
