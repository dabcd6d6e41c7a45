/-
  Proved: for every number d the call of DecHalves (half, twice and the whole part, or the errors: DC4) returns true, and its arguments read behind the call as they read before; the listed variables lie as the program's text lays them (the card ties them to the pruned copy of the program).
-/
import Derived.Test.YtladeppjccfbhaaDoorLawDHalves
import Derived.Test.YtladeppjccfbhaaDoorDecX
import Derived.Test.YtladeppjccfbhaaDoorCards
import Derived.Test.YtladeppjccfbhaaDoorTie
namespace Go.Proofs.YtladeppjccfbhaaDoor
open Go.ChangeShapes Go.WideShapes Go.ChangeAt Go.RowKit Go.Joins

set_option maxRecDepth 100000 in
theorem dhalves_contract (H : Type) (enc : TypeId × Value → H) (W : World) (base : Nat) (args : Array Value) (ds gs : List (DataW H)) (before : List MemPlace)
    (hval : ∀ (j : Nat) t v, Tryd.f5.params[j]? = some t → args[j]? = some v → Value.okWide Tryd.prog W .any base t v)
    (hW : DataW.Whole enc Tryd.prog Tryd.f5.params.toList Rows.decHalvesSpec.vars false W args.toList ds gs before) (hL : laidMetH Tryd.prog decLaid W) :
    Calls Tryd.prog 5 args W fun e W' => ∃ v, e = .returned v ∧ Rows.decHalvesSpec.post enc Tryd.prog Tryd.f5 false true false false W args v W' := by
  have hW' := hW
  obtain ⟨p, q, hA0, hV, rfl, hfz, hnd⟩ := hW
  have hA : DataW.TrodAll enc Tryd.prog W 0 (fun _ => true) true Tryd.f5.params.toList args.toList ds p := hA0
  rw [Tryd.params5] at hA hval
  obtain ⟨v0, d0, rfl, rfl, h0⟩ := trodAll_one hA
  obtain ⟨rfl, rfl⟩ := trodVars_none hV
  obtain ⟨s, p, c, rfl, rfl, rfl, w0, w1⟩ := dec_open (hval 0 23 v0 rfl rfl) h0
  clear hA0
  simp only [List.append_nil] at hW'
  refine (law_dhalves s p c (Nat.le_trans w0 (by decide)) W (errD_of hL)).mono fun e W' ⟨he, hg⟩ => ?_
  subst he
  exact ⟨_, rfl, _, _, _, [], [], [], hW', trodAll_mk1 (shut_bool Tryd.underlying4 _), trodAll_mk1 (dec_shut w0 w1), rfl,
    hg.frame _, fun h => by cases h⟩

theorem dhalves_laid (os : Os) : laidMetH Tryd.prog decLaid ((decWorld os).forCall (fun _ _ => 0) ⟨#[], #[.agg #[.string ⟨#[]⟩, .int .i64 0, .bool false]], []⟩).memory :=
  laidMetH_of_parts (by rw [decLaid_n]; exact laidMet_of_run' 8 (by kernel_rfl) (by kernel_rfl)) (by rw [decLaid_h]; kernel_rfl)
theorem dhalves_reads (os : Os) {H : Type} (enc : TypeId × Value → H) : ∃ places, DataW.whole enc Tryd.prog ((decWorld os).forCall (fun _ _ => 0) ⟨#[], #[.agg #[.string ⟨#[]⟩, .int .i64 0, .bool false]], []⟩).memory Tryd.f5.params.toList Rows.decHalvesSpec.vars false #[Value.agg #[.string ⟨#[]⟩, .int .i64 0, .bool false]].toList 8 = some ([.agg [.lit (.string []), .lit (.int .i64 0), .lit (.bool false)]], [], places) :=
  ⟨[], by kernel_rfl⟩

set_option maxRecDepth 100000 in
theorem dhalves_lifted (os : Os) (started : os.Started) (H : Type) (enc : TypeId × Value → H) (F : Stop.Interp) :
    ReturnsInHanded {} Tryd.checked os 5 .any ((OpenSpec.ofChange Rows.decHalvesSpec).preRow enc Tryd.prog Tryd.f5 Rows.decHalvesRow.domain false decLaid) (((OpenSpec.ofChange Rows.decHalvesSpec).at F).post enc Tryd.prog Tryd.f5 false true false false) := by
  obtain ⟨places, hx⟩ := dhalves_reads os enc
  refine returnsInHanded_of_row (C := Tryd.checked) (s := OpenSpec.ofChange Rows.decHalvesSpec) ownD started (by kernel_rfl) Tryd.func5
    (witness_row_at (enc := enc) (C := Tryd.checked) false (decWorld os) #[.agg #[.string ⟨#[]⟩, .int .i64 0, .bool false]] rfl (by kernel_rfl) (by kernel_rfl) (by kernel_rfl)
      (OpenSpec.preRow_of_cond 8 hx (by kernel_rfl) (fun k hk => by cases hk) (by kernel_rfl) (dhalves_laid os))) ?_
  intro W base args ds gs before hval hW _ _ _ hL _ _
  exact dhalves_contract H enc W base args ds gs before hval hW hL

theorem dhalves_said : Rows.DecHalvesSaid :=
  OpenClaim.holds_of_cond 5 Tryd.f5 rfl rfl rfl rfl rfl rfl rfl ⟨rfl, rfl, rfl, rfl, rfl⟩ rfl rfl rfl rfl rfl (by kernel_rfl) Tryd.func5 (by kernel_rfl)
    (of_decide_eq_true (by kernel_rfl)) (by unfold Func.isWrapper; first | (rw [if_pos (by decide +kernel)]; kernel_rfl) | (rw [if_neg (by decide +kernel)]; exact ⟨rfl, rfl⟩))
    (fun os started H enc _ F => by rw [OpenClaim.pre_eq_preRow]; exact dhalves_lifted os started H enc F)

theorem dhalves_plain (f : FuncId) (fn : Func) (hf : Tryd.pinned.checked.prog.funcNamed "numeral/numerallaw03.DecHalves" = some f) (hfn : Tryd.pinned.checked.prog.funcs[f]? = some fn) :
    true = Tryd.pinned.checked.prog.looks [] ∧ ∀ (j : Nat) t, fn.params[j]? = some t → Tryd.pinned.checked.prog.wantsStandIn t = false := by
  obtain rfl : f = 5 := Option.some.inj ((show Tryd.prog.funcNamed "numeral/numerallaw03.DecHalves" = some 5 by kernel_rfl).symm.trans hf) |>.symm
  obtain rfl : fn = Tryd.f5 := (Option.some.inj (Tryd.func5.symm.trans hfn)).symm
  refine ⟨by kernel_rfl, fun j t ht => ?_⟩
  rw [Tryd.params5] at ht
  have : t = 23 := by simpa using Array.mem_of_getElem? ht
  rw [this]
  exact (show Tryd.prog.wantsStandIn 23 = false by kernel_rfl)

theorem decHalves_card : Rows.DecHalvesCardSaid :=
  Claim7.holds_tied_plain_at .later [] _ _ _ _ dhalves_said (fun _ h => by cases h) (by kernel_rfl) (fun _ h => by cases h) decHalves_row_tie rfl ⟨rfl, rfl⟩ (by kernel_rfl) rfl dhalves_plain (by kernel_rfl)
#print axioms decHalves_card

end Go.Proofs.YtladeppjccfbhaaDoor
