/-
  Proved: for every number a of 128 bits and every word b the call of WideQuotients (quotients and what is left, or the error: WI3) returns true, and its arguments read behind the call as they read before; errors.errorType lies as the program's text lays it (the card ties it to the pruned copy of the program).
-/
import Derived.Test.YtbmcegoebhbglaaDoorLawQuo
import Derived.Test.YtbmcegoebhbglaaDoorErrLaid
import Derived.Test.YtbmcegoebhbglaaDoorRowKit
import Derived.Test.YtbmcegoebhbglaaDoorCards
import Derived.Test.YtbmcegoebhbglaaDoorTie
import Derived.Deep.DeepHandedRow
namespace Go.Proofs.YtbmcegoebhbglaaDoor
open Go.ChangeShapes Go.WideShapes Go.ChangeAt Go.RowKit Go.Joins

theorem quo_errT {W : World} (h : laidMetH Tryd.prog Rows.wideQuotientsRow.laid W) : ErrT W := errT_of_laid h

set_option maxRecDepth 100000 in
theorem quo_contract (H : Type) (enc : TypeId × Value → H) (W : World) (base : Nat) (args : Array Value) (ds gs : List (DataW H)) (before : List MemPlace)
    (hval : ∀ (j : Nat) t v, Tryd.f3.params[j]? = some t → args[j]? = some v → Value.okWide Tryd.prog W .any base t v)
    (hW : DataW.Whole enc Tryd.prog Tryd.f3.params.toList Rows.wideQuotientsSpec.vars false W args.toList ds gs before) (hL : laidMetH Tryd.prog Rows.wideQuotientsRow.laid W) :
    Calls Tryd.prog 3 args W fun e W' => ∃ v, e = .returned v ∧ Rows.wideQuotientsSpec.post enc Tryd.prog Tryd.f3 false true false false W args v W' := by
  have hW' := hW
  obtain ⟨p, q, hA0, hV, rfl, hfz, hnd⟩ := hW
  have hA : DataW.TrodAll enc Tryd.prog W 0 (fun _ => true) true Tryd.f3.params.toList args.toList ds p := hA0
  rw [Tryd.params3] at hA hval
  obtain ⟨v0, v1, d0, d1, p0, p1, rfl, rfl, rfl, h0, h1⟩ := trodAll_two hA
  obtain ⟨rfl, rfl⟩ := trodVars_none hV
  obtain ⟨c0, c1, y0, y1, m, rfl, rfl, rfl, hy0, hy1⟩ := open_agg2 Tryd.underlying24 (by kernel_rfl) Tryd.cells24 (hval 0 24 v0 rfl rfl) h0
  obtain ⟨h, e0, rfl, w0⟩ := DataW.trod_int Tryd.underlying22 hy0
  obtain ⟨l, e1, rfl, w1⟩ := DataW.trod_int Tryd.underlying22 hy1
  simp at e0 e1
  subst e0 e1
  obtain ⟨n, rfl, rfl, rfl, w2⟩ := open_int Tryd.underlying22 (hval 1 22 v1 rfl rfl) h1
  clear hA0
  simp only [List.append_nil] at hW'
  refine (law_quo h l n (word_of_wf w0) (word_of_wf w1) (word_of_wf w2) W (quo_errT hL)).mono fun e W' ⟨he, hg⟩ => ?_
  subst he
  exact ⟨_, rfl, _, _, _, [], [], [], hW', trodAll_mk1 (shut_bool Tryd.underlying4 _),
    trodAll_mk2 (shut_agg2 (y0 := (.lit (.int .u64 h), [])) (y1 := (.lit (.int .u64 l), [])) Tryd.underlying24 (by kernel_rfl) Tryd.cells24 ⟨1, by simp [DataW.trod, Tryd.underlying22, w0]⟩ ⟨1, by simp [DataW.trod, Tryd.underlying22, w1]⟩) (shut_int Tryd.underlying22 w2), rfl,
    hg.frame _, fun h => by cases h⟩

theorem quo_laid (os : Os) : laidMetH Tryd.prog Rows.wideQuotientsRow.laid ((errWorld os).forCall (fun _ _ => 0) ⟨#[], #[.agg #[.int .u64 0, .int .u64 0], .int .u64 0], []⟩).memory :=
  laidMetH_of_parts (laidMet_nil _ _) (by kernel_rfl)
theorem quo_reads (os : Os) {H : Type} (enc : TypeId × Value → H) : ∃ places, DataW.whole enc Tryd.prog ((errWorld os).forCall (fun _ _ => 0) ⟨#[], #[.agg #[.int .u64 0, .int .u64 0], .int .u64 0], []⟩).memory Tryd.f3.params.toList Rows.wideQuotientsSpec.vars false #[Value.agg #[.int .u64 0, .int .u64 0], .int .u64 0].toList 8 = some ([.agg [.lit (.int .u64 0), .lit (.int .u64 0)], .lit (.int .u64 0)], [], places) :=
  ⟨[], by kernel_rfl⟩

set_option maxRecDepth 100000 in
theorem quo_lifted (os : Os) (started : os.Started) (H : Type) (enc : TypeId × Value → H) (F : Stop.Interp) :
    ReturnsInHanded {} Tryd.checked os 3 .any ((OpenSpec.ofChange Rows.wideQuotientsSpec).preRow enc Tryd.prog Tryd.f3 Rows.wideQuotientsRow.domain false Rows.wideQuotientsRow.laid) (((OpenSpec.ofChange Rows.wideQuotientsSpec).at F).post enc Tryd.prog Tryd.f3 false true false false) := by
  obtain ⟨places, hx⟩ := quo_reads os enc
  refine returnsInHanded_of_row (C := Tryd.checked) (s := OpenSpec.ofChange Rows.wideQuotientsSpec) Tryd.own started (by kernel_rfl) Tryd.func3
    (witness_row_at (enc := enc) (C := Tryd.checked) false (errWorld os) #[.agg #[.int .u64 0, .int .u64 0], .int .u64 0] rfl (by kernel_rfl) (by kernel_rfl) (by kernel_rfl)
      (OpenSpec.preRow_of_cond 8 hx (by kernel_rfl) (fun k hk => by cases hk) (by kernel_rfl) (quo_laid os))) ?_
  intro W base args ds gs before hval hW _ _ _ hL _ _
  exact quo_contract H enc W base args ds gs before hval hW hL

theorem quo_said : Rows.WideQuotientsSaid :=
  OpenClaim.holds_of_cond 3 Tryd.f3 rfl rfl rfl rfl rfl rfl rfl ⟨rfl, rfl, rfl, rfl, rfl⟩ rfl rfl rfl rfl rfl (by kernel_rfl) Tryd.func3 (by kernel_rfl)
    (of_decide_eq_true (by kernel_rfl)) (by unfold Func.isWrapper; first | (rw [if_pos (by decide +kernel)]; kernel_rfl) | (rw [if_neg (by decide +kernel)]; exact ⟨rfl, rfl⟩))
    (fun os started H enc _ F => by rw [OpenClaim.pre_eq_preRow]; exact quo_lifted os started H enc F)

theorem quo_plain (f : FuncId) (fn : Func) (hf : Tryd.pinned.checked.prog.funcNamed "numeral/numerallaw01.WideQuotients" = some f) (hfn : Tryd.pinned.checked.prog.funcs[f]? = some fn) :
    true = Tryd.pinned.checked.prog.looks [] ∧ ∀ (j : Nat) t, fn.params[j]? = some t → Tryd.pinned.checked.prog.wantsStandIn t = false := by
  obtain rfl : f = 3 := Option.some.inj ((show Tryd.prog.funcNamed "numeral/numerallaw01.WideQuotients" = some 3 by kernel_rfl).symm.trans hf) |>.symm
  obtain rfl : fn = Tryd.f3 := (Option.some.inj (Tryd.func3.symm.trans hfn)).symm
  refine ⟨by kernel_rfl, fun j t ht => ?_⟩
  rw [Tryd.params3] at ht
  have : t = 24 ∨ t = 22 := by simpa using Array.mem_of_getElem? ht
  rcases this with rfl | rfl
  · exact (show Tryd.prog.wantsStandIn 24 = false by kernel_rfl)
  · exact (show Tryd.prog.wantsStandIn 22 = false by kernel_rfl)

theorem wideQuotients_card : Rows.WideQuotientsCardSaid :=
  Claim7.holds_tied_plain_at .later [] _ _ _ _ quo_said (fun _ h => by cases h) (by kernel_rfl) (fun _ h => by cases h) wideQuotients_row_tie rfl ⟨rfl, rfl⟩ (by kernel_rfl) rfl quo_plain (by kernel_rfl)
#print axioms wideQuotients_card

end Go.Proofs.YtbmcegoebhbglaaDoor
