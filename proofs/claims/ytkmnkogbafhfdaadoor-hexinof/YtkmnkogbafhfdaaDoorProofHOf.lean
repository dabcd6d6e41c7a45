/-
  Proved: for all parts p of a text and every integer size the call of HexinOf (the float of a hexadecimal text's parts, or the error: HI2) returns true, and its arguments read behind the call as they read before; math/bits.deBruijn64tab and errors.errorType lie as the program's text lays them (the card ties them to the pruned copy of the program).
-/
import Derived.Test.YtkmnkogbafhfdaaDoorLawHOf
import Derived.Test.YtkmnkogbafhfdaaDoorHxX
import Derived.Test.YtkmnkogbafhfdaaDoorCards
import Derived.Test.YtkmnkogbafhfdaaDoorTie
namespace Go.Proofs.YtkmnkogbafhfdaaDoor
open Go.ChangeShapes Go.WideShapes Go.ChangeAt Go.RowKit Go.Joins

set_option maxRecDepth 100000 in
theorem hxof_contract (H : Type) (enc : TypeId × Value → H) (W : World) (base : Nat) (args : Array Value) (ds gs : List (DataW H)) (before : List MemPlace)
    (hval : ∀ (j : Nat) t v, Tryd.f3.params[j]? = some t → args[j]? = some v → Value.okWide Tryd.prog W .any base t v)
    (hW : DataW.Whole enc Tryd.prog Tryd.f3.params.toList Rows.hexinOfSpec.vars false W args.toList ds gs before)
    (hsz : (DataW.weightsEach Tryd.prog (Tryd.f3.params.toList ++ (OpenSpec.ofChange Rows.hexinOfSpec).bare.plain.varTypes Tryd.prog) (ds ++ gs)).all (· ≤ reachBytes) = true) (hL : laidMetH Tryd.prog Rows.hexinOfRow.laid W) :
    Calls Tryd.prog 3 args W fun e W' => ∃ v, e = .returned v ∧ Rows.hexinOfSpec.post enc Tryd.prog Tryd.f3 false true false false W args v W' := by
  have hW' := hW
  have hE : ErrT W := errB_of hL
  have hT : Tab W := tabB_of hL
  obtain ⟨p, q, hA0, hV, rfl, hfz, hnd⟩ := hW
  have hA : DataW.TrodAll enc Tryd.prog W 0 (fun _ => true) true Tryd.f3.params.toList args.toList ds p := hA0
  rw [Tryd.params3] at hA hval hsz
  obtain ⟨v0, v1, d0, d1, p0, p1, rfl, rfl, rfl, h0, h1⟩ := trodAll_two hA
  obtain ⟨rfl, rfl⟩ := trodVars_none hV
  obtain ⟨pc, pk, pt, pq, pu, pm, pe, pr, rfl, rfl, rfl, g1, g2, g3, g4, g5⟩ := pt_open (hval 0 26 v0 rfl rfl) h0
  obtain ⟨pn, rfl, gn⟩ := nat_of_u64 g4
  obtain ⟨x1, rfl, rfl, rfl, w1⟩ := open_int Tryd.underlying3 (hval 1 3 v1 rfl rfl) h1
  clear hA0
  simp only [List.append_nil] at hW'
  refine (law_hof pc pk pt pq pu pn gn pe pr x1 W hE hT).mono fun e W' ⟨he, hg⟩ => ?_
  subst he
  exact ⟨_, rfl, _, _, _, [], [], [], hW', trodAll_mk1 (shut_bool Tryd.underlying4 _), trodAll_mk2 (pt_shut g1 g2 g3 g4 g5) (shut_int Tryd.underlying3 w1), rfl,
    hg.frame _, fun h => by cases h⟩

theorem hxof_laid (os : Os) : laidMetH Tryd.prog Rows.hexinOfRow.laid ((btWorld os).forCall (fun _ _ => 0) ⟨#[], #[.agg #[.bool false, .int .i64 0, .string ⟨#[]⟩, .int .i64 0, .bool false, .int .u64 0, .int .i64 0, .bool false], .int .i64 0], []⟩).memory :=
  laidMetH_of_parts (by rw [show (Rows.hexinOfRow.laid.filter fun x => x.2.handleName?.isNone) = _ from btLaid_n]; exact laidMet_of_run' 8 (by kernel_rfl) (by kernel_rfl)) (by rw [show (Rows.hexinOfRow.laid.filter fun x => x.2.handleName?.isSome) = _ from btLaid_h]; kernel_rfl)
theorem hxof_reads (os : Os) {H : Type} (enc : TypeId × Value → H) : ∃ places, DataW.whole enc Tryd.prog ((btWorld os).forCall (fun _ _ => 0) ⟨#[], #[.agg #[.bool false, .int .i64 0, .string ⟨#[]⟩, .int .i64 0, .bool false, .int .u64 0, .int .i64 0, .bool false], .int .i64 0], []⟩).memory Tryd.f3.params.toList Rows.hexinOfSpec.vars false #[(.agg #[.bool false, .int .i64 0, .string ⟨#[]⟩, .int .i64 0, .bool false, .int .u64 0, .int .i64 0, .bool false] : Value), .int .i64 0].toList 8 = some ([.agg [.lit (.bool false), .lit (.int .i64 0), .agg [.lit (.string []), .lit (.int .i64 0), .lit (.bool false)], .lit (.int .u64 0), .lit (.int .i64 0), .lit (.bool false)], .lit (.int .i64 0)], [], places) :=
  ⟨[], by kernel_rfl⟩

set_option maxRecDepth 100000 in
theorem hxof_lifted (os : Os) (started : os.Started) (H : Type) (enc : TypeId × Value → H) (F : Stop.Interp) :
    ReturnsInHanded {} Tryd.checked os 3 .any ((OpenSpec.ofChange Rows.hexinOfSpec).preRow enc Tryd.prog Tryd.f3 Rows.hexinOfRow.domain false Rows.hexinOfRow.laid) (((OpenSpec.ofChange Rows.hexinOfSpec).at F).post enc Tryd.prog Tryd.f3 false true false false) := by
  obtain ⟨places, hx⟩ := hxof_reads os enc
  refine returnsInHanded_of_row (C := Tryd.checked) (s := OpenSpec.ofChange Rows.hexinOfSpec) ownB started (by kernel_rfl) Tryd.func3
    (witness_row_at (enc := enc) (C := Tryd.checked) false (btWorld os) #[.agg #[.bool false, .int .i64 0, .string ⟨#[]⟩, .int .i64 0, .bool false, .int .u64 0, .int .i64 0, .bool false], .int .i64 0] rfl (by kernel_rfl) (by kernel_rfl) (by kernel_rfl)
      (OpenSpec.preRow_of_cond 8 hx (by kernel_rfl) (fun k hk => by cases hk) (by kernel_rfl) (hxof_laid os))) ?_
  intro W base args ds gs before hval hW _ _ hsz hL _ _
  exact hxof_contract H enc W base args ds gs before hval hW hsz hL

theorem hxof_said : Rows.HexinOfSaid :=
  OpenClaim.holds_of_cond 3 Tryd.f3 rfl rfl rfl rfl rfl rfl rfl ⟨rfl, rfl, rfl, rfl, rfl⟩ rfl rfl rfl rfl rfl (by kernel_rfl) Tryd.func3 (by kernel_rfl)
    (of_decide_eq_true (by kernel_rfl)) (by unfold Func.isWrapper; first | (rw [if_pos (by decide +kernel)]; kernel_rfl) | (rw [if_neg (by decide +kernel)]; exact ⟨rfl, rfl⟩))
    (fun os started H enc _ F => by rw [OpenClaim.pre_eq_preRow]; exact hxof_lifted os started H enc F)

theorem hxof_plain (f : FuncId) (fn : Func) (hf : Tryd.pinned.checked.prog.funcNamed "numeral/numerallaw17.HexinOf" = some f) (hfn : Tryd.pinned.checked.prog.funcs[f]? = some fn) :
    true = Tryd.pinned.checked.prog.looks [] ∧ ∀ (j : Nat) t, fn.params[j]? = some t → Tryd.pinned.checked.prog.wantsStandIn t = false := by
  obtain rfl : f = 3 := Option.some.inj ((show Tryd.prog.funcNamed "numeral/numerallaw17.HexinOf" = some 3 by kernel_rfl).symm.trans hf) |>.symm
  obtain rfl : fn = Tryd.f3 := (Option.some.inj (Tryd.func3.symm.trans hfn)).symm
  refine ⟨by kernel_rfl, fun j t ht => ?_⟩
  rw [Tryd.params3] at ht
  have : t = 26 ∨ t = 3 := by simpa using Array.mem_of_getElem? ht
  rcases this with rfl | rfl
  · exact (show Tryd.prog.wantsStandIn 26 = false by kernel_rfl)
  · exact (show Tryd.prog.wantsStandIn 3 = false by kernel_rfl)

theorem hexinOf_card : Rows.HexinOfCardSaid :=
  Claim7.holds_tied_plain_at .later [] _ _ _ _ hxof_said (fun _ h => by cases h) (by kernel_rfl) (fun _ h => by cases h) hexinOf_row_tie rfl ⟨rfl, rfl⟩ (by kernel_rfl) rfl hxof_plain (by kernel_rfl)
#print axioms hexinOf_card

end Go.Proofs.YtkmnkogbafhfdaaDoor
