/-
  Proved: for every number b and size the call of QuickShortest (where it is sure, the answer is the shortest digits of the float; it must be of small whole numbers; or the error: QU1) returns true, and its arguments read behind the call as they read before; math/bits.deBruijn32tab, math/bits.deBruijn64tab, internal/strconv.uint64pow10 and errors.errorType lie as the program's text lays them (the card ties them to the pruned copy of the program).
-/
import Derived.Test.YtbpfhnndlknloaaGreatDoorKg22
import Derived.Test.YtbpfhnndlknloaaGreatDoorKg35
import Derived.Test.YtbpfhnndlknloaaGreatDoorKg36
import Derived.Test.YtbpfhnndlknloaaGreatDoorCards
import Derived.Test.YtbpfhnndlknloaaGreatDoorTie
namespace Go.Proofs.YtbpfhnndlknloaaGreatDoor
open Go.ChangeShapes Go.WideShapes Go.ChangeAt Go.RowKit Go.Joins

set_option maxRecDepth 100000 in
theorem qshortest_contract (H : Type) (enc : TypeId × Value → H) (W : World) (base : Nat) (args : Array Value) (ds gs : List (DataW H)) (before : List MemPlace)
    (hval : ∀ (j : Nat) t v, Tryz.f3.params[j]? = some t → args[j]? = some v → Value.okWide Tryz.prog W .any base t v)
    (hW : DataW.Whole enc Tryz.prog Tryz.f3.params.toList Rows.quickShortestSpec.vars false W args.toList ds gs before) (hL : laidMetH Tryz.prog qsLaid W) :
    Calls Tryz.prog 3 args W fun e W' => ∃ v, e = .returned v ∧ Rows.quickShortestSpec.post enc Tryz.prog Tryz.f3 false true false false W args v W' := by
  have hW' := hW
  obtain ⟨p, q, hA0, hV, rfl, hfz, hnd⟩ := hW
  have hA : DataW.TrodAll enc Tryz.prog W 0 (fun _ => true) true Tryz.f3.params.toList args.toList ds p := hA0
  rw [Tryz.params3] at hA hval
  obtain ⟨v0, v1, d0, d1, p0, p1, rfl, rfl, rfl, h0, h1⟩ := trodAll_two hA
  obtain ⟨rfl, rfl⟩ := trodVars_none hV
  obtain ⟨x0, rfl, rfl, rfl, y0⟩ := open_int Tryz.underlying22 (hval 0 22 v0 rfl rfl) h0
  obtain ⟨b0, rfl, z0⟩ := nat_of_u64 y0
  obtain ⟨x1, rfl, rfl, rfl, y1⟩ := open_int Tryz.underlying3 (hval 1 3 v1 rfl rfl) h1
  clear hA0
  simp only [List.append_nil] at hW'
  refine (law_quick_shortest b0 z0 x1 W (gdS_of hL) (errB_of hL)).mono fun e W' ⟨he, hg⟩ => ?_
  subst he
  exact ⟨_, rfl, _, _, _, [], [], [], hW', trodAll_mk1 (shut_bool Tryz.underlying4 _), trodAll_mk2 (shut_int Tryz.underlying22 y0) (shut_int Tryz.underlying3 y1), rfl,
    hg.frame _, fun h => by cases h⟩

theorem qshortest_laid (os : Os) : laidMetH Tryz.prog qsLaid ((qsWorld os).forCall (fun _ _ => 0) ⟨#[], #[.int .u64 0, .int .i64 0], []⟩).memory :=
  laidMetH_of_parts (by rw [qsLaid_n]; exact laidMet_of_run' 8 (by kernel_rfl) (by kernel_rfl)) (by rw [qsLaid_h]; kernel_rfl)
theorem qshortest_reads (os : Os) {H : Type} (enc : TypeId × Value → H) : ∃ places, DataW.whole enc Tryz.prog ((qsWorld os).forCall (fun _ _ => 0) ⟨#[], #[.int .u64 0, .int .i64 0], []⟩).memory Tryz.f3.params.toList Rows.quickShortestSpec.vars false #[Value.int .u64 0, .int .i64 0].toList 8 = some ([.lit (.int .u64 0), .lit (.int .i64 0)], [], places) :=
  ⟨[], by kernel_rfl⟩

set_option maxRecDepth 100000 in
theorem qshortest_lifted (os : Os) (started : os.Started) (H : Type) (enc : TypeId × Value → H) (F : Stop.Interp) :
    ReturnsInHanded {} Tryz.checked os 3 .any ((OpenSpec.ofChange Rows.quickShortestSpec).preRow enc Tryz.prog Tryz.f3 Rows.quickShortestRow.domain false qsLaid) (((OpenSpec.ofChange Rows.quickShortestSpec).at F).post enc Tryz.prog Tryz.f3 false true false false) := by
  obtain ⟨places, hx⟩ := qshortest_reads os enc
  refine returnsInHanded_of_row (C := Tryz.checked) (s := OpenSpec.ofChange Rows.quickShortestSpec) ownQ started (by kernel_rfl) Tryz.func3
    (witness_row_at (enc := enc) (C := Tryz.checked) false (qsWorld os) #[.int .u64 0, .int .i64 0] rfl (by kernel_rfl) (by kernel_rfl) (by kernel_rfl)
      (OpenSpec.preRow_of_cond 8 hx (by kernel_rfl) (fun k hk => by cases hk) (by kernel_rfl) (qshortest_laid os))) ?_
  intro W base args ds gs before hval hW _ _ _ hL _ _
  exact qshortest_contract H enc W base args ds gs before hval hW hL

theorem qshortest_said : Rows.QuickShortestSaid :=
  OpenClaim.holds_of_cond 3 Tryz.f3 rfl rfl rfl rfl rfl rfl rfl ⟨rfl, rfl, rfl, rfl, rfl⟩ rfl rfl rfl rfl rfl (by kernel_rfl) Tryz.func3 (by kernel_rfl)
    (of_decide_eq_true (by kernel_rfl)) (by unfold Func.isWrapper; first | (rw [if_pos (by decide +kernel)]; kernel_rfl) | (rw [if_neg (by decide +kernel)]; exact ⟨rfl, rfl⟩))
    (fun os started H enc _ F => by rw [OpenClaim.pre_eq_preRow]; exact qshortest_lifted os started H enc F)

theorem qshortest_plain (f : FuncId) (fn : Func) (hf : Tryz.pinned.checked.prog.funcNamed "numeral/numerallaw21.QuickShortest" = some f) (hfn : Tryz.pinned.checked.prog.funcs[f]? = some fn) :
    true = Tryz.pinned.checked.prog.looks [] ∧ ∀ (j : Nat) t, fn.params[j]? = some t → Tryz.pinned.checked.prog.wantsStandIn t = false := by
  obtain rfl : f = 3 := Option.some.inj ((show Tryz.prog.funcNamed "numeral/numerallaw21.QuickShortest" = some 3 by kernel_rfl).symm.trans hf) |>.symm
  obtain rfl : fn = Tryz.f3 := (Option.some.inj (Tryz.func3.symm.trans hfn)).symm
  refine ⟨by kernel_rfl, fun j t ht => ?_⟩
  rw [Tryz.params3] at ht
  have : t = 22 ∨ t = 3 := by simpa using Array.mem_of_getElem? ht
  rcases this with rfl | rfl
  · exact (show Tryz.prog.wantsStandIn 22 = false by kernel_rfl)
  · exact (show Tryz.prog.wantsStandIn 3 = false by kernel_rfl)

theorem quickShortest_card : Rows.QuickShortestCardSaid :=
  Claim7.holds_tied_plain_at .later [] _ _ _ _ qshortest_said (fun _ h => by cases h) (by kernel_rfl) (fun _ h => by cases h) quickShortest_row_tie rfl ⟨rfl, rfl⟩ (by kernel_rfl) rfl qshortest_plain (by kernel_rfl)
#print axioms quickShortest_card

end Go.Proofs.YtbpfhnndlknloaaGreatDoor
