/-
  The head of the statements over dec (sure): a number that is made, one that is rounded: true.
-/
import Derived.Test.YtghbngjjdeameaaGreatDoorDecT
import Derived.RegionTactic
import Derived.ChangeAlike
import Derived.BigRegion
import Derived.Deep.RegionHeld3
namespace Go.Proofs.YtghbngjjdeameaaGreatDoor
open Go.RowKit

theorem und_u8b : Tryz.prog.underlying 5 = some (.int .u8) := by kernel_rfl
theorem und_str9b : Tryz.prog.underlying 9 = some .string := by kernel_rfl

theorem mayRound_sure (w : World) :
    Calls Tryz.prog 36 #[dcV ⟨#[49, 51, 53]⟩ 1 false, .int .i64 2, .int .i64 2] w fun e w' => e = .returned (.bool true) ∧ Below w.heap.size w w' := by
  have hv : VD ⟨#[49, 51, 53]⟩ 1 false := Or.inr ⟨by decide, by decide, (by intro k h; have hk : k < 3 := h; rcases (by omega : k = 0 ∨ k = 1 ∨ k = 2) with rfl | rfl | rfl <;> decide +revert), by decide, Or.inl (by decide), by omega, by omega⟩
  have V := fun W => dvalid_yes hv W
  clear hv
  unfold dcV
  go_enter Tryz.func36, Tryz.ntmps36
  go_wp2_with fail
  refine (V _).mono ?_
  rintro e w1 ⟨rfl, hb⟩
  have c2 := hb.cell (p := ⟨w.heap.size, 2, none⟩) (by simp)
  have c2' : w1.cell? ⟨w.heap.size, 2, none⟩ = some (.bool false) := by rw [c2]; simp
  go_wp2
  go_ret
  exact ⟨rfl, ((Below.refl _ _).alloc (Nat.le_refl _) _).trans (hb.mono (by simp))⟩

theorem roundsUp_sure (w : World) :
    Calls Tryz.prog 38 #[dcV ⟨#[49, 51, 53]⟩ 1 false, .int .i64 2] w fun e w' => e = .returned (.bool true) ∧ Below w.heap.size w w' := by
  have G := fun W => goesOn_any ⟨#[49, 51, 53]⟩ 1 false 3 W
  have e0 : onB ⟨#[49, 51, 53]⟩ false 3 = false := by decide
  rw [e0] at G
  clear e0
  have x1 : ∀ hh, ((⟨#[49, 51, 53]⟩ : ByteArray)[1]'hh).toNat = 51 := fun _ => rfl
  have x2 : ∀ hh, ((⟨#[49, 51, 53]⟩ : ByteArray)[2]'hh).toNat = 53 := fun _ => rfl
  unfold dcV
  go_enter Tryz.func38, Tryz.ntmps38
  go_wp2_with fail
  refine (G _).mono ?_
  rintro e w1 ⟨rfl, hb⟩
  have c2 := hb.cell (p := ⟨w.heap.size, 0, none⟩) (by simp)
  have c2' : w1.cell? ⟨w.heap.size, 0, none⟩ = some (.string ⟨#[49, 51, 53]⟩) := by rw [c2]; simp
  go_wp2
  go_ret
  exact ⟨rfl, ((Below.refl _ _).alloc (Nat.le_refl _) _).trans (hb.mono (by simp))⟩

set_option maxRecDepth 100000 in
set_option maxHeartbeats 1000000 in
theorem make_sure (w : World) :
    Calls Tryz.prog 18 #[.string ⟨#[48, 48, 49, 50, 53, 48, 48]⟩, .int .i64 3, .bool false] w fun e w' => e = .returned (.tuple #[dcV ⟨#[49, 50, 53]⟩ 1 false, .nilIface]) ∧ Below w.heap.size w w' := by
  have D := fun W => areDig_yes ⟨#[48, 48, 49, 50, 53, 48, 48]⟩ (by decide) (by intro k h; have hk : k < 7 := h; rcases (by omega : k = 0 ∨ k = 1 ∨ k = 2 ∨ k = 3 ∨ k = 4 ∨ k = 5 ∨ k = 6) with rfl | rfl | rfl | rfl | rfl | rfl | rfl <;> decide +revert) W
  have T := fun W => trimLeft_any ⟨#[48, 48, 49, 50, 53, 48, 48]⟩ (by decide) 2 (by decide) (by decide) (by intro i h; rcases (by omega : i = 0 ∨ i = 1) with rfl | rfl <;> rfl) (by intro _; decide +revert) W
  have e1 : (⟨#[48, 48, 49, 50, 53, 48, 48]⟩ : ByteArray).extract 2 (⟨#[48, 48, 49, 50, 53, 48, 48]⟩ : ByteArray).size = ⟨#[49, 50, 53, 48, 48]⟩ := by decide
  rw [e1] at T
  have S := fun W => shorten_ok ⟨#[49, 50, 53, 48, 48]⟩ (by decide) 3 (by decide) (by intro i h1 h; have hk : i < 5 := h; rcases (by omega : i = 3 ∨ i = 4) with rfl | rfl <;> rfl) (by intro _; decide +revert) W
  have e2 : (⟨#[49, 50, 53, 48, 48]⟩ : ByteArray).extract 0 3 = ⟨#[49, 50, 53]⟩ := by decide
  rw [e2] at S
  have z1 : (⟨#[48, 48, 49, 50, 53, 48, 48]⟩ : ByteArray).size = 7 := rfl
  have z2 : (⟨#[49, 50, 53, 48, 48]⟩ : ByteArray).size = 5 := rfl
  clear e1 e2
  unfold dcV
  go_enter Tryz.func18, Tryz.ntmps18
  go_wp2_with fail
  refine (D _).mono ?_
  rintro e w0 ⟨rfl, rfl⟩
  go_wp2_with fail
  refine (T _).mono ?_
  rintro e w0 ⟨rfl, rfl⟩
  go_wp2_with fail
  refine (S _).mono ?_
  rintro e w1 ⟨rfl, hb⟩
  have hs1 : w.heap.size < w1.heap.size := by have := hb.size; simp at this; omega
  obtain ⟨hc, hf⟩ : (∀ o, w1.cell? ⟨w.heap.size, o, none⟩ = (w.alloc (.cells #[.string ⟨#[]⟩, .int .i64 0, .bool false] 23)).cell? ⟨w.heap.size, o, none⟩) ∧ (∀ o, w1.frozen? ⟨w.heap.size, o, none⟩ = (w.alloc (.cells #[.string ⟨#[]⟩, .int .i64 0, .bool false] 23)).frozen? ⟨w.heap.size, o, none⟩) :=
    ⟨fun o => hb.cell (p := ⟨w.heap.size, o, none⟩) (by simp), fun o => hb.frozen (p := ⟨w.heap.size, o, none⟩) (by simp)⟩
  go_wp2
  refine bodyPost_ret (v := .tuple #[.agg #[.string ⟨#[49, 50, 53]⟩, .int .i64 1, .bool false], .nilIface]) (by simp [results, Tryz.results18, go_sem, hc]) rfl ⟨rfl, ?_⟩
  exact ((((((Below.refl _ _).alloc (Nat.le_refl _) _).trans (hb.mono (by simp))).setCell (Nat.le_refl _) _).setCell (Nat.le_refl _) _).setCell (Nat.le_refl _) _)

set_option maxRecDepth 100000 in
set_option maxHeartbeats 1000000 in
theorem above_sure (w : World) :
    Calls Tryz.prog 39 #[dcV ⟨#[49, 51, 53]⟩ 1 false, .int .i64 2] w fun e w' => e = .returned (.tuple #[dcV ⟨#[49, 52]⟩ 1 false, .nilIface]) ∧ Below w.heap.size w w' := by
  have T := fun W => trimRight57 ⟨#[49, 51]⟩ (by decide) 2 (by decide) (by intro i h1 h; have hk : i < 2 := h; omega) (by intro _; decide +revert) W
  have e1 : (⟨#[49, 51]⟩ : ByteArray).extract 0 2 = ⟨#[49, 51]⟩ := by decide
  rw [e1] at T
  have e2 : (⟨#[49, 51, 53]⟩ : ByteArray).extract 0 2 = ⟨#[49, 51]⟩ := by decide
  have e3 : (⟨#[49, 51]⟩ : ByteArray).extract 0 1 = ⟨#[49]⟩ := by decide
  have z1 : (⟨#[49, 51, 53]⟩ : ByteArray).size = 3 := rfl
  have z2 : (⟨#[49, 51]⟩ : ByteArray).size = 2 := rfl
  have x1 : ∀ hh, ((⟨#[49, 51]⟩ : ByteArray)[1]'hh).toNat = 51 := fun _ => rfl
  have hw52 : IntKind.u8.wrap 52 = 52 := by decide
  have hcv : ∀ W : World, W.cell? ⟨w.heap.size + 1 + 1, 0, none⟩ = some (.int .u8 52) → (Go.convert 77 9 (.slice (some ⟨w.heap.size + 1 + 1, 0, none⟩) 1 1)).run Tryz.prog W = .ok (.string ⟨#[52]⟩) W := by
    intro W hW
    refine run_convert_bytes_arg W 77 5 und_bytes48 und_u8b (w.heap.size + 1 + 1) 0 1 1 [52] rfl ?_ 9 und_str9b
    intro i hi
    obtain rfl : i = 0 := by simpa using hi
    exact hW
  clear e1
  unfold dcV
  go_enter Tryz.func39, Tryz.ntmps39
  go_wp2_with fail
  refine (T _).mono ?_
  rintro e w0 ⟨rfl, rfl⟩
  go_wp2
  go_region
  have e4 : (⟨#[49]⟩ : ByteArray) ++ ⟨#[52]⟩ = ⟨#[49, 52]⟩ := by decide
  go_wp2
  refine bodyPost_ret (v := .tuple #[.agg #[.string ⟨#[49, 52]⟩, .int .i64 1, .bool false], .nilIface]) (by simp [results, Tryz.results39, go_sem, e4]) rfl ⟨rfl, ?_⟩
  exact ((((Below.refl _ _).alloc (Nat.le_refl _) _).alloc (by simp) _).alloc (by simp; omega) _).drew

set_option maxRecDepth 100000 in
set_option maxHeartbeats 1000000 in
theorem round_sure (w : World) :
    Calls Tryz.prog 19 #[dcV ⟨#[49, 51, 53]⟩ 1 false, .int .i64 2] w fun e w' => e = .returned (.tuple #[dcV ⟨#[49, 52]⟩ 1 false, .nilIface]) ∧ Below w.heap.size w w' := by
  have M := fun W => mayRound_sure W
  have G := fun W => goesOn_any ⟨#[49, 51, 53]⟩ 1 false 2 W
  have e0 : onB ⟨#[49, 51, 53]⟩ false 2 = true := by decide
  rw [e0] at G
  clear e0
  have R := fun W => roundsUp_sure W
  have A := fun W => above_sure W
  have z1 : (⟨#[49, 51, 53]⟩ : ByteArray).size = 3 := rfl
  unfold dcV at *
  go_enter Tryz.func19, Tryz.ntmps19
  go_wp2_with fail
  refine (M _).mono ?_
  rintro e w1 ⟨rfl, hb1⟩
  have hs1 : w.heap.size + 2 ≤ w1.heap.size := by have := hb1.size; simp at this; omega
  have c1 : ∀ o, w1.cell? ⟨w.heap.size, o, none⟩ = (w.alloc (.cells #[.string ⟨#[49, 51, 53]⟩, .int .i64 1, .bool false] 23)).cell? ⟨w.heap.size, o, none⟩ := fun o => by
    rw [hb1.cell (p := ⟨w.heap.size, o, none⟩) (by simp; omega)]
    simp
  have f1 : ∀ o, w1.frozen? ⟨w.heap.size + 1, o, none⟩ = ((w.alloc (.cells #[.string ⟨#[49, 51, 53]⟩, .int .i64 1, .bool false] 23)).alloc (.cells #[.string ⟨#[]⟩, .int .i64 0, .bool false] 23)).frozen? ⟨w.heap.size + 1, o, none⟩ := fun o => hb1.frozen (p := ⟨w.heap.size + 1, o, none⟩) (by simp)
  have d1 : ∀ o, w1.cell? ⟨w.heap.size + 1, o, none⟩ = ((w.alloc (.cells #[.string ⟨#[49, 51, 53]⟩, .int .i64 1, .bool false] 23)).alloc (.cells #[.string ⟨#[]⟩, .int .i64 0, .bool false] 23)).cell? ⟨w.heap.size + 1, o, none⟩ := fun o => hb1.cell (p := ⟨w.heap.size + 1, o, none⟩) (by simp)
  have B1 : Below w.heap.size w w1 := (((Below.refl _ _).alloc (Nat.le_refl _) _).alloc (by simp) _).trans (hb1.mono (by simp; omega))
  clear hb1
  go_wp2_with fail
  refine (G _).mono ?_
  rintro e w2 ⟨rfl, hb2⟩
  have hs2 : w.heap.size + 2 ≤ w2.heap.size := by have := hb2.size; omega
  have c2 : ∀ o, w2.cell? ⟨w.heap.size, o, none⟩ = (w.alloc (.cells #[.string ⟨#[49, 51, 53]⟩, .int .i64 1, .bool false] 23)).cell? ⟨w.heap.size, o, none⟩ := fun o => by
    rw [hb2.cell (p := ⟨w.heap.size, o, none⟩) (by show w.heap.size < w1.heap.size; omega)]; exact c1 o
  have f2 : ∀ o, w2.frozen? ⟨w.heap.size + 1, o, none⟩ = _ := fun o => (hb2.frozen (p := ⟨w.heap.size + 1, o, none⟩) (by show w.heap.size + 1 < w1.heap.size; omega)).trans (f1 o)
  have d2 : ∀ o, w2.cell? ⟨w.heap.size + 1, o, none⟩ = _ := fun o => (hb2.cell (p := ⟨w.heap.size + 1, o, none⟩) (by show w.heap.size + 1 < w1.heap.size; omega)).trans (d1 o)
  have B2 : Below w.heap.size w w2 := B1.trans (hb2.mono (by omega))
  clear hb2 c1 f1 d1 B1
  go_wp2_with fail
  refine (R _).mono ?_
  rintro e w3 ⟨rfl, hb3⟩
  have hs3 : w.heap.size + 2 ≤ w3.heap.size := by have := hb3.size; omega
  have c3 : ∀ o, w3.cell? ⟨w.heap.size, o, none⟩ = (w.alloc (.cells #[.string ⟨#[49, 51, 53]⟩, .int .i64 1, .bool false] 23)).cell? ⟨w.heap.size, o, none⟩ := fun o => by
    rw [hb3.cell (p := ⟨w.heap.size, o, none⟩) (by show w.heap.size < w2.heap.size; omega)]; exact c2 o
  have f3 : ∀ o, w3.frozen? ⟨w.heap.size + 1, o, none⟩ = _ := fun o => (hb3.frozen (p := ⟨w.heap.size + 1, o, none⟩) (by show w.heap.size + 1 < w2.heap.size; omega)).trans (f2 o)
  have d3 : ∀ o, w3.cell? ⟨w.heap.size + 1, o, none⟩ = _ := fun o => (hb3.cell (p := ⟨w.heap.size + 1, o, none⟩) (by show w.heap.size + 1 < w2.heap.size; omega)).trans (d2 o)
  have B3 : Below w.heap.size w w3 := B2.trans (hb3.mono (by omega))
  clear hb3 c2 f2 d2 B2
  go_wp2_with fail
  refine (A _).mono ?_
  rintro e w4 ⟨rfl, hb4⟩
  have f4 : ∀ o, w4.frozen? ⟨w.heap.size + 1, o, none⟩ = _ := fun o => (hb4.frozen (p := ⟨w.heap.size + 1, o, none⟩) (by show w.heap.size + 1 < w3.heap.size; omega)).trans (f3 o)
  have d4 : ∀ o, w4.cell? ⟨w.heap.size + 1, o, none⟩ = _ := fun o => (hb4.cell (p := ⟨w.heap.size + 1, o, none⟩) (by show w.heap.size + 1 < w3.heap.size; omega)).trans (d3 o)
  have B4 : Below w.heap.size w w4 := B3.trans (hb4.mono (by omega))
  clear hb4 c3 f3 d3 B3
  go_wp2
  refine bodyPost_ret (v := .tuple #[.agg #[.string ⟨#[49, 52]⟩, .int .i64 1, .bool false], .nilIface]) (by simp [results, Tryz.results19, go_sem, d4]) rfl ⟨rfl, ?_⟩
  exact (((B4.setCell (by simp) _).setCell (by simp) _).setCell (by simp) _)

set_option maxRecDepth 100000 in
set_option maxHeartbeats 1000000 in
theorem sure_any (w : World) :
    Calls Tryz.prog 9 #[] w fun e w' => e = .returned (.bool true) ∧ Below w.heap.size w w' := by
  have M := fun W => make_sure W
  have R := fun W => round_sure W
  unfold dcV at *
  go_enter Tryz.func9, Tryz.ntmps9
  go_wp2_with fail
  refine (M _).mono ?_
  rintro e w1 ⟨rfl, hb1⟩
  go_wp2_with fail
  refine (R _).mono ?_
  rintro e w2 ⟨rfl, hb2⟩
  have hs2 : w1.heap.size + 1 ≤ w2.heap.size := by have := hb2.size; simp at this; omega
  have c2 : ∀ o, w2.cell? ⟨w1.heap.size, o, none⟩ = (w1.alloc (.cells #[.string ⟨#[49, 50, 53]⟩, .int .i64 1, .bool false] 23)).cell? ⟨w1.heap.size, o, none⟩ := fun o => by
    rw [hb2.cell (p := ⟨w1.heap.size, o, none⟩) (by simp)]
    try simp
  have B2 : Below w.heap.size w w2 := (hb1.trans ((Below.refl _ _).alloc hb1.size _)).trans (hb2.mono (by have := hb1.size; simp; omega))
  have c3 : ∀ ob o, (w2.alloc ob).cell? ⟨w1.heap.size, o, none⟩ = (w1.alloc (.cells #[.string ⟨#[49, 50, 53]⟩, .int .i64 1, .bool false] 23)).cell? ⟨w1.heap.size, o, none⟩ := fun ob o => (World.cell?_alloc_lt w2 ob ⟨w1.heap.size, o, none⟩ (by show w1.heap.size < w2.heap.size; omega)).trans (c2 o)
  go_wp2
  go_ret
  exact ⟨rfl, B2.alloc (by have := hb1.size; omega) _⟩

end Go.Proofs.YtghbngjjdeameaaGreatDoor
