/-
  Proved: for every number b, size and n the call of HastyDigits (where it is sure, the answer is the float's exact value rounded to so many digits; it must be of whole numbers below 2^53; or the error: HA1) returns true, and its arguments read behind the call as they read before; math/bits.deBruijn32tab, math/bits.deBruijn64tab, internal/strconv.uint64pow10, unicode/utf8.acceptRanges, errors.errorType and unicode/utf8.first lie as the program's text lays them (the card ties them to the pruned copy of the program).
-/
import Derived.Test.YtjagnfddmlkalaaGreatDoorKj1
import Derived.Test.YtjagnfddmlkalaaGreatDoorKj5
import Derived.Test.YtjagnfddmlkalaaGreatDoorKj6
import Derived.Test.YtjagnfddmlkalaaGreatDoorKj15
import Derived.Test.YtjagnfddmlkalaaGreatDoorKj18
import Derived.Test.YtjagnfddmlkalaaGreatDoorKj21
import Derived.Test.YtjagnfddmlkalaaGreatDoorKj22
import Derived.Test.YtjagnfddmlkalaaGreatDoorKj34
import Derived.Test.YtjagnfddmlkalaaGreatDoorKj35
import Derived.Test.YtjagnfddmlkalaaGreatDoorCards
import Derived.Test.YtjagnfddmlkalaaGreatDoorTie
namespace Go.Proofs.YtjagnfddmlkalaaGreatDoor
open Go.ChangeShapes Go.WideShapes Go.ChangeAt Go.RowKit Go.Joins

set_option maxRecDepth 100000 in
theorem hastyd_contract (H : Type) (enc : TypeId × Value → H) (W : World) (base : Nat) (args : Array Value) (ds gs : List (DataW H)) (before : List MemPlace)
    (hval : ∀ (j : Nat) t v, Tryz.f3.params[j]? = some t → args[j]? = some v → Value.okWide Tryz.prog W .any base t v)
    (hW : DataW.Whole enc Tryz.prog Tryz.f3.params.toList Rows.hastyDigitsSpec.vars false W args.toList ds gs before) (hL : laidMetH Tryz.prog hdLaid W) :
    Calls Tryz.prog 3 args W fun e W' => ∃ v, e = .returned v ∧ Rows.hastyDigitsSpec.post enc Tryz.prog Tryz.f3 false true false false W args v W' := by
  have hW' := hW
  obtain ⟨p, q, hA0, hV, rfl, hfz, hnd⟩ := hW
  have hA : DataW.TrodAll enc Tryz.prog W 0 (fun _ => true) true Tryz.f3.params.toList args.toList ds p := hA0
  rw [Tryz.params3] at hA hval
  obtain ⟨v0, v1, v2, d0, d1, d2, p0, p1, p2, rfl, rfl, rfl, h0, h1, h2⟩ := trodAll_three hA
  obtain ⟨rfl, rfl⟩ := trodVars_none hV
  obtain ⟨x0, rfl, rfl, rfl, y0⟩ := open_int Tryz.underlying22 (hval 0 22 v0 rfl rfl) h0
  obtain ⟨b0, rfl, z0⟩ := nat_of_u64 y0
  obtain ⟨x1, rfl, rfl, rfl, y1⟩ := open_int Tryz.underlying3 (hval 1 3 v1 rfl rfl) h1
  obtain ⟨x2, rfl, rfl, rfl, y2⟩ := open_int Tryz.underlying3 (hval 2 3 v2 rfl rfl) h2
  clear hA0
  simp only [List.append_nil] at hW'
  refine (law_hasty_digits b0 z0 x1 x2 W (gdS_of hL) (errB_of hL)).mono fun e W' ⟨he, hg⟩ => ?_
  subst he
  exact ⟨_, rfl, _, _, _, [], [], [], hW', trodAll_mk1 (shut_bool Tryz.underlying4 _), trodAll_mk3 (shut_int Tryz.underlying22 y0) (shut_int Tryz.underlying3 y1) (shut_int Tryz.underlying3 y2), rfl,
    hg.frame _, fun h => by cases h⟩

theorem hastyd_laid (os : Os) : laidMetH Tryz.prog hdLaid ((hdWorld os).forCall (fun _ _ => 0) ⟨#[], #[.int .u64 0, .int .i64 0, .int .i64 0], []⟩).memory :=
  laidMetH_of_parts (by rw [hdLaid_n]; exact laidMet_of_run' 8 (by kernel_rfl) (by kernel_rfl)) (by rw [hdLaid_h]; kernel_rfl)
theorem hastyd_reads (os : Os) {H : Type} (enc : TypeId × Value → H) : ∃ places, DataW.whole enc Tryz.prog ((hdWorld os).forCall (fun _ _ => 0) ⟨#[], #[.int .u64 0, .int .i64 0, .int .i64 0], []⟩).memory Tryz.f3.params.toList Rows.hastyDigitsSpec.vars false #[Value.int .u64 0, .int .i64 0, .int .i64 0].toList 8 = some ([.lit (.int .u64 0), .lit (.int .i64 0), .lit (.int .i64 0)], [], places) :=
  ⟨[], by kernel_rfl⟩

set_option maxRecDepth 100000 in
theorem hastyd_lifted (os : Os) (started : os.Started) (H : Type) (enc : TypeId × Value → H) (F : Stop.Interp) :
    ReturnsInHanded {} Tryz.checked os 3 .any ((OpenSpec.ofChange Rows.hastyDigitsSpec).preRow enc Tryz.prog Tryz.f3 Rows.hastyDigitsRow.domain false hdLaid) (((OpenSpec.ofChange Rows.hastyDigitsSpec).at F).post enc Tryz.prog Tryz.f3 false true false false) := by
  obtain ⟨places, hx⟩ := hastyd_reads os enc
  refine returnsInHanded_of_row (C := Tryz.checked) (s := OpenSpec.ofChange Rows.hastyDigitsSpec) ownH started (by kernel_rfl) Tryz.func3
    (witness_row_at (enc := enc) (C := Tryz.checked) false (hdWorld os) #[.int .u64 0, .int .i64 0, .int .i64 0] rfl (by kernel_rfl) (by kernel_rfl) (by kernel_rfl)
      (OpenSpec.preRow_of_cond 8 hx (by kernel_rfl) (fun k hk => by cases hk) (by kernel_rfl) (hastyd_laid os))) ?_
  intro W base args ds gs before hval hW _ _ _ hL _ _
  exact hastyd_contract H enc W base args ds gs before hval hW hL

theorem hastyd_said : Rows.HastyDigitsSaid :=
  OpenClaim.holds_of_cond 3 Tryz.f3 rfl rfl rfl rfl rfl rfl rfl ⟨rfl, rfl, rfl, rfl, rfl⟩ rfl rfl rfl rfl rfl (by kernel_rfl) Tryz.func3 (by kernel_rfl)
    (of_decide_eq_true (by kernel_rfl)) (by unfold Func.isWrapper; first | (rw [if_pos (by decide +kernel)]; kernel_rfl) | (rw [if_neg (by decide +kernel)]; exact ⟨rfl, rfl⟩))
    (fun os started H enc _ F => by rw [OpenClaim.pre_eq_preRow]; exact hastyd_lifted os started H enc F)

theorem hastyd_plain (f : FuncId) (fn : Func) (hf : Tryz.pinned.checked.prog.funcNamed "numeral/numerallaw23.HastyDigits" = some f) (hfn : Tryz.pinned.checked.prog.funcs[f]? = some fn) :
    true = Tryz.pinned.checked.prog.looks [] ∧ ∀ (j : Nat) t, fn.params[j]? = some t → Tryz.pinned.checked.prog.wantsStandIn t = false := by
  obtain rfl : f = 3 := Option.some.inj ((show Tryz.prog.funcNamed "numeral/numerallaw23.HastyDigits" = some 3 by kernel_rfl).symm.trans hf) |>.symm
  obtain rfl : fn = Tryz.f3 := (Option.some.inj (Tryz.func3.symm.trans hfn)).symm
  refine ⟨by kernel_rfl, fun j t ht => ?_⟩
  rw [Tryz.params3] at ht
  have : t = 22 ∨ t = 3 := by simpa using Array.mem_of_getElem? ht
  rcases this with rfl | rfl
  · exact (show Tryz.prog.wantsStandIn 22 = false by kernel_rfl)
  · exact (show Tryz.prog.wantsStandIn 3 = false by kernel_rfl)

theorem hastyDigits_card : Rows.HastyDigitsCardSaid :=
  Claim7.holds_tied_plain_at .later [] _ _ _ _ hastyd_said (fun _ h => by cases h) (by kernel_rfl) (fun _ h => by cases h) hastyDigits_row_tie rfl ⟨rfl, rfl⟩ (by kernel_rfl) rfl hastyd_plain (by kernel_rfl)
#print axioms hastyDigits_card

end Go.Proofs.YtjagnfddmlkalaaGreatDoor
