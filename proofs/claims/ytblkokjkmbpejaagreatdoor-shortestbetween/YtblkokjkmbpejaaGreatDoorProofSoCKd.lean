/-
  Proved: for every two numbers and both ways to count the ends the call of ShortestBetween (of the numbers between any two the one of the fewest digits, the least of several, or the error: SH3) returns true, and its arguments read behind the call as they read before; unicode/utf8.acceptRanges and unicode/utf8.first lie as the program's text lays them (the card ties them to the pruned copy of the program).
-/
import Derived.Test.YtblkokjkmbpejaaGreatDoorKd1
import Derived.Test.YtblkokjkmbpejaaGreatDoorKd21
import Derived.Test.YtblkokjkmbpejaaGreatDoorKd27
import Derived.Test.YtblkokjkmbpejaaGreatDoorKd33
import Derived.Test.YtblkokjkmbpejaaGreatDoorKd34
import Derived.Test.YtblkokjkmbpejaaGreatDoorCards
import Derived.Test.YtblkokjkmbpejaaGreatDoorTie
namespace Go.Proofs.YtblkokjkmbpejaaGreatDoor
open Go.ChangeShapes Go.WideShapes Go.ChangeAt Go.RowKit Go.Joins

set_option maxRecDepth 100000 in
theorem sobetween_contract (H : Type) (enc : TypeId × Value → H) (W : World) (base : Nat) (args : Array Value) (ds gs : List (DataW H)) (before : List MemPlace)
    (hval : ∀ (j : Nat) t v, Tryz.f5.params[j]? = some t → args[j]? = some v → Value.okWide Tryz.prog W .any base t v)
    (hW : DataW.Whole enc Tryz.prog Tryz.f5.params.toList Rows.shortestBetweenSpec.vars false W args.toList ds gs before) (_ : laidMetH Tryz.prog soLaid W) :
    Calls Tryz.prog 5 args W fun e W' => ∃ v, e = .returned v ∧ Rows.shortestBetweenSpec.post enc Tryz.prog Tryz.f5 false true false false W args v W' := by
  have hW' := hW
  obtain ⟨p, q, hA0, hV, rfl, hfz, hnd⟩ := hW
  have hA : DataW.TrodAll enc Tryz.prog W 0 (fun _ => true) true Tryz.f5.params.toList args.toList ds p := hA0
  rw [Tryz.params5] at hA hval
  obtain ⟨v0, v1, v2, d0, d1, d2, p0, p1, p2, rfl, rfl, rfl, h0, h1, h2⟩ := trodAll_three hA
  obtain ⟨rfl, rfl⟩ := trodVars_none hV
  obtain ⟨s0, q0, c0, rfl, rfl, rfl, w0, k0⟩ := dec_open (hval 0 24 v0 rfl rfl) h0
  obtain ⟨s1, q1, c1, rfl, rfl, rfl, w1, k1⟩ := dec_open (hval 1 24 v1 rfl rfl) h1
  obtain ⟨x2, rfl, rfl, rfl⟩ := open_bool Tryz.underlying4 (hval 2 4 v2 rfl rfl) h2
  clear hA0
  simp only [List.append_nil] at hW'
  refine (law_between s0 s1 q0 q1 c0 c1 x2 (by have := w0; unfold maxLen at this; omega) (by have := w1; unfold maxLen at this; omega) W).mono fun e W' ⟨he, hg⟩ => ?_
  subst he
  exact ⟨_, rfl, _, _, _, [], [], [], hW', trodAll_mk1 (shut_bool Tryz.underlying4 _), trodAll_mk3 (dec_shut w0 k0) (dec_shut w1 k1) (shut_bool Tryz.underlying4 _), rfl,
    hg.frame _, fun h => by cases h⟩

theorem sobetween_laid (os : Os) : laidMetH Tryz.prog soLaid ((soWorld os).forCall (fun _ _ => 0) ⟨#[], #[.agg #[.string ⟨#[]⟩, .int .i64 0, .bool false], .agg #[.string ⟨#[]⟩, .int .i64 0, .bool false], .bool false], []⟩).memory :=
  laidMetH_of_parts (by rw [soLaid_n]; exact laidMet_of_run' 8 (by kernel_rfl) (by kernel_rfl)) (by rw [soLaid_h]; kernel_rfl)
theorem sobetween_reads (os : Os) {H : Type} (enc : TypeId × Value → H) : ∃ places, DataW.whole enc Tryz.prog ((soWorld os).forCall (fun _ _ => 0) ⟨#[], #[.agg #[.string ⟨#[]⟩, .int .i64 0, .bool false], .agg #[.string ⟨#[]⟩, .int .i64 0, .bool false], .bool false], []⟩).memory Tryz.f5.params.toList Rows.shortestBetweenSpec.vars false #[Value.agg #[.string ⟨#[]⟩, .int .i64 0, .bool false], .agg #[.string ⟨#[]⟩, .int .i64 0, .bool false], .bool false].toList 8 = some ([.agg [.lit (.string []), .lit (.int .i64 0), .lit (.bool false)], .agg [.lit (.string []), .lit (.int .i64 0), .lit (.bool false)], .lit (.bool false)], [], places) :=
  ⟨[], by kernel_rfl⟩

set_option maxRecDepth 100000 in
theorem sobetween_lifted (os : Os) (started : os.Started) (H : Type) (enc : TypeId × Value → H) (F : Stop.Interp) :
    ReturnsInHanded {} Tryz.checked os 5 .any ((OpenSpec.ofChange Rows.shortestBetweenSpec).preRow enc Tryz.prog Tryz.f5 Rows.shortestBetweenRow.domain false soLaid) (((OpenSpec.ofChange Rows.shortestBetweenSpec).at F).post enc Tryz.prog Tryz.f5 false true false false) := by
  obtain ⟨places, hx⟩ := sobetween_reads os enc
  refine returnsInHanded_of_row (C := Tryz.checked) (s := OpenSpec.ofChange Rows.shortestBetweenSpec) ownD started (by kernel_rfl) Tryz.func5
    (witness_row_at (enc := enc) (C := Tryz.checked) false (soWorld os) #[.agg #[.string ⟨#[]⟩, .int .i64 0, .bool false], .agg #[.string ⟨#[]⟩, .int .i64 0, .bool false], .bool false] rfl (by kernel_rfl) (by kernel_rfl) (by kernel_rfl)
      (OpenSpec.preRow_of_cond 8 hx (by kernel_rfl) (fun k hk => by cases hk) (by kernel_rfl) (sobetween_laid os))) ?_
  intro W base args ds gs before hval hW _ _ _ hL _ _
  exact sobetween_contract H enc W base args ds gs before hval hW hL

theorem sobetween_said : Rows.ShortestBetweenSaid :=
  OpenClaim.holds_of_cond 5 Tryz.f5 rfl rfl rfl rfl rfl rfl rfl ⟨rfl, rfl, rfl, rfl, rfl⟩ rfl rfl rfl rfl rfl (by kernel_rfl) Tryz.func5 (by kernel_rfl)
    (of_decide_eq_true (by kernel_rfl)) (by unfold Func.isWrapper; first | (rw [if_pos (by decide +kernel)]; kernel_rfl) | (rw [if_neg (by decide +kernel)]; exact ⟨rfl, rfl⟩))
    (fun os started H enc _ F => by rw [OpenClaim.pre_eq_preRow]; exact sobetween_lifted os started H enc F)

theorem sobetween_plain (f : FuncId) (fn : Func) (hf : Tryz.pinned.checked.prog.funcNamed "numeral/numerallaw20.ShortestBetween" = some f) (hfn : Tryz.pinned.checked.prog.funcs[f]? = some fn) :
    true = Tryz.pinned.checked.prog.looks [] ∧ ∀ (j : Nat) t, fn.params[j]? = some t → Tryz.pinned.checked.prog.wantsStandIn t = false := by
  obtain rfl : f = 5 := Option.some.inj ((show Tryz.prog.funcNamed "numeral/numerallaw20.ShortestBetween" = some 5 by kernel_rfl).symm.trans hf) |>.symm
  obtain rfl : fn = Tryz.f5 := (Option.some.inj (Tryz.func5.symm.trans hfn)).symm
  refine ⟨by kernel_rfl, fun j t ht => ?_⟩
  rw [Tryz.params5] at ht
  have : t = 24 ∨ t = 4 := by simpa using Array.mem_of_getElem? ht
  rcases this with rfl | rfl
  · exact (show Tryz.prog.wantsStandIn 24 = false by kernel_rfl)
  · exact (show Tryz.prog.wantsStandIn 4 = false by kernel_rfl)

theorem shortestBetween_card : Rows.ShortestBetweenCardSaid :=
  Claim7.holds_tied_plain_at .later [] _ _ _ _ sobetween_said (fun _ h => by cases h) (by kernel_rfl) (fun _ h => by cases h) shortestBetween_row_tie rfl ⟨rfl, rfl⟩ (by kernel_rfl) rfl sobetween_plain (by kernel_rfl)
#print axioms shortestBetween_card

end Go.Proofs.YtblkokjkmbpejaaGreatDoor
