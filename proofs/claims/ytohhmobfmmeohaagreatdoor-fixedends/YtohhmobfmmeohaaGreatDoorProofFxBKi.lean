/-
  Proved: for every number b, size and n the call of FixedEnds (how many digits every float has on both sides of its point, and whether so many places are all, or the errors: FI2) returns true, and its arguments read behind the call as they read before; unicode/utf8.acceptRanges and unicode/utf8.first lie as the program's text lays them (the card ties them to the pruned copy of the program).
-/
import Derived.Test.YtohhmobfmmeohaaGreatDoorKi3
import Derived.Test.YtohhmobfmmeohaaGreatDoorKi22
import Derived.Test.YtohhmobfmmeohaaGreatDoorKi26
import Derived.Test.YtohhmobfmmeohaaGreatDoorKi33
import Derived.Test.YtohhmobfmmeohaaGreatDoorKi34
import Derived.Test.YtohhmobfmmeohaaGreatDoorCards
import Derived.Test.YtohhmobfmmeohaaGreatDoorTie
namespace Go.Proofs.YtohhmobfmmeohaaGreatDoor
open Go.ChangeShapes Go.WideShapes Go.ChangeAt Go.RowKit Go.Joins

set_option maxRecDepth 100000 in
theorem fxends_contract (H : Type) (enc : TypeId × Value → H) (W : World) (base : Nat) (args : Array Value) (ds gs : List (DataW H)) (before : List MemPlace)
    (hval : ∀ (j : Nat) t v, Tryz.f4.params[j]? = some t → args[j]? = some v → Value.okWide Tryz.prog W .any base t v)
    (hW : DataW.Whole enc Tryz.prog Tryz.f4.params.toList Rows.fixedEndsSpec.vars false W args.toList ds gs before) (_ : laidMetH Tryz.prog soLaid W) :
    Calls Tryz.prog 4 args W fun e W' => ∃ v, e = .returned v ∧ Rows.fixedEndsSpec.post enc Tryz.prog Tryz.f4 false true false false W args v W' := by
  have hW' := hW
  obtain ⟨p, q, hA0, hV, rfl, hfz, hnd⟩ := hW
  have hA : DataW.TrodAll enc Tryz.prog W 0 (fun _ => true) true Tryz.f4.params.toList args.toList ds p := hA0
  rw [Tryz.params4] at hA hval
  obtain ⟨v0, v1, v2, d0, d1, d2, p0, p1, p2, rfl, rfl, rfl, h0, h1, h2⟩ := trodAll_three hA
  obtain ⟨rfl, rfl⟩ := trodVars_none hV
  obtain ⟨x0, rfl, rfl, rfl, y0⟩ := open_int Tryz.underlying22 (hval 0 22 v0 rfl rfl) h0
  obtain ⟨b0, rfl, z0⟩ := nat_of_u64 y0
  obtain ⟨x1, rfl, rfl, rfl, y1⟩ := open_int Tryz.underlying3 (hval 1 3 v1 rfl rfl) h1
  obtain ⟨x2, rfl, rfl, rfl, y2⟩ := open_int Tryz.underlying3 (hval 2 3 v2 rfl rfl) h2
  clear hA0
  simp only [List.append_nil] at hW'
  refine (law_ends b0 z0 x1 x2 W).mono fun e W' ⟨he, hg⟩ => ?_
  subst he
  exact ⟨_, rfl, _, _, _, [], [], [], hW', trodAll_mk1 (shut_bool Tryz.underlying4 _), trodAll_mk3 (shut_int Tryz.underlying22 y0) (shut_int Tryz.underlying3 y1) (shut_int Tryz.underlying3 y2), rfl,
    hg.frame _, fun h => by cases h⟩

theorem fxends_laid (os : Os) : laidMetH Tryz.prog soLaid ((soWorld os).forCall (fun _ _ => 0) ⟨#[], #[.int .u64 0, .int .i64 0, .int .i64 0], []⟩).memory :=
  laidMetH_of_parts (by rw [soLaid_n]; exact laidMet_of_run' 8 (by kernel_rfl) (by kernel_rfl)) (by rw [soLaid_h]; kernel_rfl)
theorem fxends_reads (os : Os) {H : Type} (enc : TypeId × Value → H) : ∃ places, DataW.whole enc Tryz.prog ((soWorld os).forCall (fun _ _ => 0) ⟨#[], #[.int .u64 0, .int .i64 0, .int .i64 0], []⟩).memory Tryz.f4.params.toList Rows.fixedEndsSpec.vars false #[Value.int .u64 0, .int .i64 0, .int .i64 0].toList 8 = some ([.lit (.int .u64 0), .lit (.int .i64 0), .lit (.int .i64 0)], [], places) :=
  ⟨[], by kernel_rfl⟩

set_option maxRecDepth 100000 in
theorem fxends_lifted (os : Os) (started : os.Started) (H : Type) (enc : TypeId × Value → H) (F : Stop.Interp) :
    ReturnsInHanded {} Tryz.checked os 4 .any ((OpenSpec.ofChange Rows.fixedEndsSpec).preRow enc Tryz.prog Tryz.f4 Rows.fixedEndsRow.domain false soLaid) (((OpenSpec.ofChange Rows.fixedEndsSpec).at F).post enc Tryz.prog Tryz.f4 false true false false) := by
  obtain ⟨places, hx⟩ := fxends_reads os enc
  refine returnsInHanded_of_row (C := Tryz.checked) (s := OpenSpec.ofChange Rows.fixedEndsSpec) ownD started (by kernel_rfl) Tryz.func4
    (witness_row_at (enc := enc) (C := Tryz.checked) false (soWorld os) #[.int .u64 0, .int .i64 0, .int .i64 0] rfl (by kernel_rfl) (by kernel_rfl) (by kernel_rfl)
      (OpenSpec.preRow_of_cond 8 hx (by kernel_rfl) (fun k hk => by cases hk) (by kernel_rfl) (fxends_laid os))) ?_
  intro W base args ds gs before hval hW _ _ _ hL _ _
  exact fxends_contract H enc W base args ds gs before hval hW hL

theorem fxends_said : Rows.FixedEndsSaid :=
  OpenClaim.holds_of_cond 4 Tryz.f4 rfl rfl rfl rfl rfl rfl rfl ⟨rfl, rfl, rfl, rfl, rfl⟩ rfl rfl rfl rfl rfl (by kernel_rfl) Tryz.func4 (by kernel_rfl)
    (of_decide_eq_true (by kernel_rfl)) (by unfold Func.isWrapper; first | (rw [if_pos (by decide +kernel)]; kernel_rfl) | (rw [if_neg (by decide +kernel)]; exact ⟨rfl, rfl⟩))
    (fun os started H enc _ F => by rw [OpenClaim.pre_eq_preRow]; exact fxends_lifted os started H enc F)

theorem fxends_plain (f : FuncId) (fn : Func) (hf : Tryz.pinned.checked.prog.funcNamed "numeral/numerallaw22.FixedEnds" = some f) (hfn : Tryz.pinned.checked.prog.funcs[f]? = some fn) :
    true = Tryz.pinned.checked.prog.looks [] ∧ ∀ (j : Nat) t, fn.params[j]? = some t → Tryz.pinned.checked.prog.wantsStandIn t = false := by
  obtain rfl : f = 4 := Option.some.inj ((show Tryz.prog.funcNamed "numeral/numerallaw22.FixedEnds" = some 4 by kernel_rfl).symm.trans hf) |>.symm
  obtain rfl : fn = Tryz.f4 := (Option.some.inj (Tryz.func4.symm.trans hfn)).symm
  refine ⟨by kernel_rfl, fun j t ht => ?_⟩
  rw [Tryz.params4] at ht
  have : t = 22 ∨ t = 3 := by simpa using Array.mem_of_getElem? ht
  rcases this with rfl | rfl
  · exact (show Tryz.prog.wantsStandIn 22 = false by kernel_rfl)
  · exact (show Tryz.prog.wantsStandIn 3 = false by kernel_rfl)

theorem fixedEnds_card : Rows.FixedEndsCardSaid :=
  Claim7.holds_tied_plain_at .later [] _ _ _ _ fxends_said (fun _ h => by cases h) (by kernel_rfl) (fun _ h => by cases h) fixedEnds_row_tie rfl ⟨rfl, rfl⟩ (by kernel_rfl) rfl fxends_plain (by kernel_rfl)
#print axioms fixedEnds_card

end Go.Proofs.YtohhmobfmmeohaaGreatDoor
