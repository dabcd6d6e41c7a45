/-
  Proved: for every number x of base two, every word more and every integer size the call of HexinSame (twice the mantissa with one less in the exponent is the same float; a greater mantissa is no lesser float; the sign changes the sign alone: HI3) returns true, and its arguments read behind the call as they read before; math/bits.deBruijn64tab and errors.errorType lie as the program's text lays them (the card ties them to the pruned copy of the program).
-/
import Derived.Test.YtkmnkogbafhfdaaDoorLawHSame
import Derived.Test.YtkmnkogbafhfdaaDoorHxX
import Derived.Test.YtkmnkogbafhfdaaDoorCards
import Derived.Test.YtkmnkogbafhfdaaDoorTie
namespace Go.Proofs.YtkmnkogbafhfdaaDoor
open Go.ChangeShapes Go.WideShapes Go.ChangeAt Go.RowKit Go.Joins

set_option maxRecDepth 100000 in
theorem hxsame_contract (H : Type) (enc : TypeId × Value → H) (W : World) (base : Nat) (args : Array Value) (ds gs : List (DataW H)) (before : List MemPlace)
    (hval : ∀ (j : Nat) t v, Tryd.f4.params[j]? = some t → args[j]? = some v → Value.okWide Tryd.prog W .any base t v)
    (hW : DataW.Whole enc Tryd.prog Tryd.f4.params.toList Rows.hexinSameSpec.vars false W args.toList ds gs before)
    (hsz : (DataW.weightsEach Tryd.prog (Tryd.f4.params.toList ++ (OpenSpec.ofChange Rows.hexinSameSpec).bare.plain.varTypes Tryd.prog) (ds ++ gs)).all (· ≤ reachBytes) = true) (hL : laidMetH Tryd.prog Rows.hexinSameRow.laid W) :
    Calls Tryd.prog 4 args W fun e W' => ∃ v, e = .returned v ∧ Rows.hexinSameSpec.post enc Tryd.prog Tryd.f4 false true false false W args v W' := by
  have hW' := hW
  have hE : ErrT W := errB_of hL
  have hT : Tab W := tabB_of hL
  obtain ⟨p, q, hA0, hV, rfl, hfz, hnd⟩ := hW
  have hA : DataW.TrodAll enc Tryd.prog W 0 (fun _ => true) true Tryd.f4.params.toList args.toList ds p := hA0
  rw [Tryd.params4] at hA hval hsz
  obtain ⟨v0, v1, v2, d0, d1, d2, p0, p1, p2, rfl, rfl, rfl, h0, h1, h2⟩ := trodAll_three hA
  obtain ⟨rfl, rfl⟩ := trodVars_none hV
  obtain ⟨pc, pm, pe, pr, rfl, rfl, rfl, g1, g2⟩ := hn_open (hval 0 37 v0 rfl rfl) h0
  obtain ⟨pn, rfl, gn⟩ := nat_of_u64 g1
  obtain ⟨x1, rfl, rfl, rfl, w1⟩ := open_int Tryd.underlying24 (hval 1 24 v1 rfl rfl) h1
  obtain ⟨x2, rfl, rfl, rfl, w2⟩ := open_int Tryd.underlying3 (hval 2 3 v2 rfl rfl) h2
  obtain ⟨y1, rfl, z1⟩ := nat_of_u64 w1
  clear hA0
  simp only [List.append_nil] at hW'
  refine (law_hsame pc pn gn pe pr y1 z1 x2 W hE hT).mono fun e W' ⟨he, hg⟩ => ?_
  subst he
  exact ⟨_, rfl, _, _, _, [], [], [], hW', trodAll_mk1 (shut_bool Tryd.underlying4 _), trodAll_mk3 (hn_shut g1 g2) (shut_int Tryd.underlying24 w1) (shut_int Tryd.underlying3 w2), rfl,
    hg.frame _, fun h => by cases h⟩

theorem hxsame_laid (os : Os) : laidMetH Tryd.prog Rows.hexinSameRow.laid ((btWorld os).forCall (fun _ _ => 0) ⟨#[], #[.agg #[.bool false, .int .u64 0, .int .i64 0, .bool false], .int .u64 0, .int .i64 0], []⟩).memory :=
  laidMetH_of_parts (by rw [show (Rows.hexinSameRow.laid.filter fun x => x.2.handleName?.isNone) = _ from btLaid_n]; exact laidMet_of_run' 8 (by kernel_rfl) (by kernel_rfl)) (by rw [show (Rows.hexinSameRow.laid.filter fun x => x.2.handleName?.isSome) = _ from btLaid_h]; kernel_rfl)
theorem hxsame_reads (os : Os) {H : Type} (enc : TypeId × Value → H) : ∃ places, DataW.whole enc Tryd.prog ((btWorld os).forCall (fun _ _ => 0) ⟨#[], #[.agg #[.bool false, .int .u64 0, .int .i64 0, .bool false], .int .u64 0, .int .i64 0], []⟩).memory Tryd.f4.params.toList Rows.hexinSameSpec.vars false #[(.agg #[.bool false, .int .u64 0, .int .i64 0, .bool false] : Value), .int .u64 0, .int .i64 0].toList 8 = some ([.agg [.lit (.bool false), .lit (.int .u64 0), .lit (.int .i64 0), .lit (.bool false)], .lit (.int .u64 0), .lit (.int .i64 0)], [], places) :=
  ⟨[], by kernel_rfl⟩

set_option maxRecDepth 100000 in
theorem hxsame_lifted (os : Os) (started : os.Started) (H : Type) (enc : TypeId × Value → H) (F : Stop.Interp) :
    ReturnsInHanded {} Tryd.checked os 4 .any ((OpenSpec.ofChange Rows.hexinSameSpec).preRow enc Tryd.prog Tryd.f4 Rows.hexinSameRow.domain false Rows.hexinSameRow.laid) (((OpenSpec.ofChange Rows.hexinSameSpec).at F).post enc Tryd.prog Tryd.f4 false true false false) := by
  obtain ⟨places, hx⟩ := hxsame_reads os enc
  refine returnsInHanded_of_row (C := Tryd.checked) (s := OpenSpec.ofChange Rows.hexinSameSpec) ownB started (by kernel_rfl) Tryd.func4
    (witness_row_at (enc := enc) (C := Tryd.checked) false (btWorld os) #[.agg #[.bool false, .int .u64 0, .int .i64 0, .bool false], .int .u64 0, .int .i64 0] rfl (by kernel_rfl) (by kernel_rfl) (by kernel_rfl)
      (OpenSpec.preRow_of_cond 8 hx (by kernel_rfl) (fun k hk => by cases hk) (by kernel_rfl) (hxsame_laid os))) ?_
  intro W base args ds gs before hval hW _ _ hsz hL _ _
  exact hxsame_contract H enc W base args ds gs before hval hW hsz hL

theorem hxsame_said : Rows.HexinSameSaid :=
  OpenClaim.holds_of_cond 4 Tryd.f4 rfl rfl rfl rfl rfl rfl rfl ⟨rfl, rfl, rfl, rfl, rfl⟩ rfl rfl rfl rfl rfl (by kernel_rfl) Tryd.func4 (by kernel_rfl)
    (of_decide_eq_true (by kernel_rfl)) (by unfold Func.isWrapper; first | (rw [if_pos (by decide +kernel)]; kernel_rfl) | (rw [if_neg (by decide +kernel)]; exact ⟨rfl, rfl⟩))
    (fun os started H enc _ F => by rw [OpenClaim.pre_eq_preRow]; exact hxsame_lifted os started H enc F)

theorem hxsame_plain (f : FuncId) (fn : Func) (hf : Tryd.pinned.checked.prog.funcNamed "numeral/numerallaw17.HexinSame" = some f) (hfn : Tryd.pinned.checked.prog.funcs[f]? = some fn) :
    true = Tryd.pinned.checked.prog.looks [] ∧ ∀ (j : Nat) t, fn.params[j]? = some t → Tryd.pinned.checked.prog.wantsStandIn t = false := by
  obtain rfl : f = 4 := Option.some.inj ((show Tryd.prog.funcNamed "numeral/numerallaw17.HexinSame" = some 4 by kernel_rfl).symm.trans hf) |>.symm
  obtain rfl : fn = Tryd.f4 := (Option.some.inj (Tryd.func4.symm.trans hfn)).symm
  refine ⟨by kernel_rfl, fun j t ht => ?_⟩
  rw [Tryd.params4] at ht
  have : t = 37 ∨ t = 24 ∨ t = 3 := by simpa using Array.mem_of_getElem? ht
  rcases this with rfl | rfl | rfl
  · exact (show Tryd.prog.wantsStandIn 37 = false by kernel_rfl)
  · exact (show Tryd.prog.wantsStandIn 24 = false by kernel_rfl)
  · exact (show Tryd.prog.wantsStandIn 3 = false by kernel_rfl)

theorem hexinSame_card : Rows.HexinSameCardSaid :=
  Claim7.holds_tied_plain_at .later [] _ _ _ _ hxsame_said (fun _ h => by cases h) (by kernel_rfl) (fun _ h => by cases h) hexinSame_row_tie rfl ⟨rfl, rfl⟩ (by kernel_rfl) rfl hxsame_plain (by kernel_rfl)
#print axioms hexinSame_card

end Go.Proofs.YtkmnkogbafhfdaaDoor
