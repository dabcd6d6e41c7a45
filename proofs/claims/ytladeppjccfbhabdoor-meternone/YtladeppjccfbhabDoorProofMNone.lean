/-
  Proved: for every act the call of MeterNone (a meter that there is not counts nothing: ME2) returns true, and its arguments read behind the call as they read before; the listed variables lie as the program's text lays them (the card ties them to the pruned copy of the program).
-/
import Derived.Test.YtladeppjccfbhabDoorLawMNone
import Derived.Test.YtladeppjccfbhabDoorMetX
import Derived.Test.YtladeppjccfbhabDoorCards
import Derived.Test.YtladeppjccfbhabDoorTie
namespace Go.Proofs.YtladeppjccfbhabDoor
open Go.ChangeShapes Go.WideShapes Go.ChangeAt Go.RowKit Go.Joins

set_option maxRecDepth 100000 in
theorem mnone_contract (H : Type) (enc : TypeId × Value → H) (W : World) (base : Nat) (args : Array Value) (ds gs : List (DataW H)) (before : List MemPlace)
    (hval : ∀ (j : Nat) t v, Tryd.f3.params[j]? = some t → args[j]? = some v → Value.okWide Tryd.prog W .any base t v)
    (hW : DataW.Whole enc Tryd.prog Tryd.f3.params.toList Rows.meterNoneSpec.vars false W args.toList ds gs before) (_hL : laidMetH Tryd.prog metLaid W) :
    Calls Tryd.prog 3 args W fun e W' => ∃ v, e = .returned v ∧ Rows.meterNoneSpec.post enc Tryd.prog Tryd.f3 false true false false W args v W' := by
  have hW' := hW
  obtain ⟨p, q, hA0, hV, rfl, hfz, hnd⟩ := hW
  have hA : DataW.TrodAll enc Tryd.prog W 0 (fun _ => true) true Tryd.f3.params.toList args.toList ds p := hA0
  rw [Tryd.params3] at hA hval
  obtain ⟨v0, d0, rfl, rfl, h0⟩ := trodAll_one hA
  obtain ⟨rfl, rfl⟩ := trodVars_none hV
  obtain ⟨cs, rfl, hsz⟩ := okWide_struct Tryd.underlying25 (hval 0 25 v0 rfl rfl)
  obtain ⟨c0, c1, c2, c3, c4, c5, c6, rfl⟩ := array7 (hsz.trans cellsAct)
  have h0' := h0
  obtain ⟨fuel, hf⟩ := h0
  obtain ⟨k, n, l, pk, e, t, s, e0, ex, w0, w1, u0, u1, u2, u3, u4⟩ := act_open (by simpa [Value.cells] using hf)
  obtain ⟨rfl, rfl⟩ := Prod.mk.inj ex
  simp only [List.cons.injEq, and_true] at e0
  obtain ⟨rfl, rfl, rfl, rfl, rfl, rfl, rfl⟩ := e0
  clear hA0
  simp only [List.append_nil] at hW'
  refine (law_mnone (k := k) (max_of_wf w1) (max_of_wf u0) (max_of_wf u1) (max_of_wf u2) (max_of_wf u3) (max_of_wf u4) W).mono fun e W' ⟨he, hg⟩ => ?_
  subst he
  have t0 := Below.trod laidOutM (by kernel_rfl) (of_decide_eq_true (by kernel_rfl)) h0' hg (fun _ h => by cases h)
  exact ⟨_, rfl, _, _, _, [], [], [], hW', trodAll_mk1 (shut_bool Tryd.underlying4 _), trodAll_mk1 t0, rfl,
    hg.frame _, fun h => by cases h⟩

theorem mnone_laid (os : Os) : laidMetH Tryd.prog metLaid ((metWorld os).forCall (fun _ _ => 0) ⟨#[], #[.agg #[.int .i64 0, .int .i64 0, .int .i64 0, .int .i64 0, .int .i64 0, .int .i64 0, .int .i64 0]], []⟩).memory :=
  laid_HM (laidMet_of_run' 8 (by kernel_rfl) (by kernel_rfl))
theorem mnone_reads (os : Os) {H : Type} (enc : TypeId × Value → H) : ∃ places, DataW.whole enc Tryd.prog ((metWorld os).forCall (fun _ _ => 0) ⟨#[], #[.agg #[.int .i64 0, .int .i64 0, .int .i64 0, .int .i64 0, .int .i64 0, .int .i64 0, .int .i64 0]], []⟩).memory Tryd.f3.params.toList Rows.meterNoneSpec.vars false #[Value.agg #[.int .i64 0, .int .i64 0, .int .i64 0, .int .i64 0, .int .i64 0, .int .i64 0, .int .i64 0]].toList 8 = some ([.agg [.lit (.int .i64 0), .lit (.int .i64 0), .agg [.lit (.int .i64 0), .lit (.int .i64 0), .lit (.int .i64 0), .lit (.int .i64 0), .lit (.int .i64 0)]]], [], places) :=
  ⟨[], by kernel_rfl⟩

set_option maxRecDepth 100000 in
theorem mnone_lifted (os : Os) (started : os.Started) (H : Type) (enc : TypeId × Value → H) (F : Stop.Interp) :
    ReturnsInHanded {} Tryd.checked os 3 .any ((OpenSpec.ofChange Rows.meterNoneSpec).preRow enc Tryd.prog Tryd.f3 Rows.meterNoneRow.domain false metLaid) (((OpenSpec.ofChange Rows.meterNoneSpec).at F).post enc Tryd.prog Tryd.f3 false true false false) := by
  obtain ⟨places, hx⟩ := mnone_reads os enc
  refine returnsInHanded_of_row (C := Tryd.checked) (s := OpenSpec.ofChange Rows.meterNoneSpec) ownM started (by kernel_rfl) Tryd.func3
    (witness_row_at (enc := enc) (C := Tryd.checked) false (metWorld os) #[.agg #[.int .i64 0, .int .i64 0, .int .i64 0, .int .i64 0, .int .i64 0, .int .i64 0, .int .i64 0]] rfl (by kernel_rfl) (by kernel_rfl) (by kernel_rfl)
      (OpenSpec.preRow_of_cond 8 hx (by kernel_rfl) (fun k hk => by cases hk) (by kernel_rfl) (mnone_laid os))) ?_
  intro W base args ds gs before hval hW _ _ _ hL _ _
  exact mnone_contract H enc W base args ds gs before hval hW hL

theorem mnone_said : Rows.MeterNoneSaid :=
  OpenClaim.holds_of_cond 3 Tryd.f3 rfl rfl rfl rfl rfl rfl rfl ⟨rfl, rfl, rfl, rfl, rfl⟩ rfl rfl rfl rfl rfl (by kernel_rfl) Tryd.func3 (by kernel_rfl)
    (of_decide_eq_true (by kernel_rfl)) (by unfold Func.isWrapper; first | (rw [if_pos (by decide +kernel)]; kernel_rfl) | (rw [if_neg (by decide +kernel)]; exact ⟨rfl, rfl⟩))
    (fun os started H enc _ F => by rw [OpenClaim.pre_eq_preRow]; exact mnone_lifted os started H enc F)

theorem mnone_plain (f : FuncId) (fn : Func) (hf : Tryd.pinned.checked.prog.funcNamed "numeral/numerallaw04.MeterNone" = some f) (hfn : Tryd.pinned.checked.prog.funcs[f]? = some fn) :
    false = Tryd.pinned.checked.prog.looks [] ∧ ∀ (j : Nat) t, fn.params[j]? = some t → Tryd.pinned.checked.prog.wantsStandIn t = false := by
  obtain rfl : f = 3 := Option.some.inj ((show Tryd.prog.funcNamed "numeral/numerallaw04.MeterNone" = some 3 by kernel_rfl).symm.trans hf) |>.symm
  obtain rfl : fn = Tryd.f3 := (Option.some.inj (Tryd.func3.symm.trans hfn)).symm
  refine ⟨by kernel_rfl, fun j t ht => ?_⟩
  rw [Tryd.params3] at ht
  have : t = 25 := by simpa using Array.mem_of_getElem? ht
  rw [this]
  exact (show Tryd.prog.wantsStandIn 25 = false by kernel_rfl)

theorem meterNone_card : Rows.MeterNoneCardSaid :=
  Claim7.holds_tied_plain_at .later [] _ _ _ _ mnone_said (fun _ h => by cases h) (by kernel_rfl) (fun _ h => by cases h) meterNone_row_tie rfl ⟨rfl, rfl⟩ (by kernel_rfl) rfl mnone_plain (by kernel_rfl)
#print axioms meterNone_card

end Go.Proofs.YtladeppjccfbhabDoor
