/-
  Proved: for every word b the call of BitsConverts (b as a float of 32 bits widened, as one of 64 narrowed, or the error: BT4) returns true, and its arguments read behind the call as they read before; math/bits.deBruijn64tab and errors.errorType lie as the program's text lays them (the card ties them to the pruned copy of the program).
-/
import Derived.Test.YtdejfjlcknfbbaaDoorLawBConverts
import Derived.Test.YtdejfjlcknfbbaaDoorBtLd
import Derived.Test.YtdejfjlcknfbbaaDoorCards
import Derived.Test.YtdejfjlcknfbbaaDoorTie
namespace Go.Proofs.YtdejfjlcknfbbaaDoor
open Go.ChangeShapes Go.WideShapes Go.ChangeAt Go.RowKit Go.Joins

set_option maxRecDepth 100000 in
theorem bconverts_contract (H : Type) (enc : TypeId × Value → H) (W : World) (base : Nat) (args : Array Value) (ds gs : List (DataW H)) (before : List MemPlace)
    (hval : ∀ (j : Nat) t v, Tryd.f7.params[j]? = some t → args[j]? = some v → Value.okWide Tryd.prog W .any base t v)
    (hW : DataW.Whole enc Tryd.prog Tryd.f7.params.toList Rows.bitsConvertsSpec.vars false W args.toList ds gs before)
    (hsz : (DataW.weightsEach Tryd.prog (Tryd.f7.params.toList ++ (OpenSpec.ofChange Rows.bitsConvertsSpec).bare.plain.varTypes Tryd.prog) (ds ++ gs)).all (· ≤ reachBytes) = true) (hL : laidMetH Tryd.prog Rows.bitsConvertsRow.laid W) :
    Calls Tryd.prog 7 args W fun e W' => ∃ v, e = .returned v ∧ Rows.bitsConvertsSpec.post enc Tryd.prog Tryd.f7 false true false false W args v W' := by
  have hW' := hW
  have hE : ErrT W := errB_of hL
  have hT : Tab W := tabB_of hL
  obtain ⟨p, q, hA0, hV, rfl, hfz, hnd⟩ := hW
  have hA : DataW.TrodAll enc Tryd.prog W 0 (fun _ => true) true Tryd.f7.params.toList args.toList ds p := hA0
  rw [Tryd.params7] at hA hval hsz
  obtain ⟨v0, d0, rfl, rfl, h0⟩ := trodAll_one hA
  obtain ⟨rfl, rfl⟩ := trodVars_none hV
  obtain ⟨x0, rfl, rfl, rfl, w0⟩ := open_int Tryd.underlying22 (hval 0 22 v0 rfl rfl) h0
  obtain ⟨y0, rfl, z0⟩ := nat_of_u64 w0
  clear hA0
  simp only [List.append_nil] at hW'
  refine (law_bconverts y0 z0 W hE hT).mono fun e W' ⟨he, hg⟩ => ?_
  subst he
  exact ⟨_, rfl, _, _, _, [], [], [], hW', trodAll_mk1 (shut_bool Tryd.underlying4 _), trodAll_mk1 (shut_int Tryd.underlying22 w0), rfl,
    hg.frame _, fun h => by cases h⟩

theorem bconverts_laid (os : Os) : laidMetH Tryd.prog Rows.bitsConvertsRow.laid ((btWorld os).forCall (fun _ _ => 0) ⟨#[], #[.int .u64 0], []⟩).memory :=
  laidMetH_of_parts (by rw [show (Rows.bitsConvertsRow.laid.filter fun x => x.2.handleName?.isNone) = _ from btLaid_n]; exact laidMet_of_run' 8 (by kernel_rfl) (by kernel_rfl)) (by rw [show (Rows.bitsConvertsRow.laid.filter fun x => x.2.handleName?.isSome) = _ from btLaid_h]; kernel_rfl)
theorem bconverts_reads (os : Os) {H : Type} (enc : TypeId × Value → H) : ∃ places, DataW.whole enc Tryd.prog ((btWorld os).forCall (fun _ _ => 0) ⟨#[], #[.int .u64 0], []⟩).memory Tryd.f7.params.toList Rows.bitsConvertsSpec.vars false #[(.int .u64 0 : Value)].toList 8 = some ([.lit (.int .u64 0)], [], places) :=
  ⟨[], by kernel_rfl⟩

set_option maxRecDepth 100000 in
theorem bconverts_lifted (os : Os) (started : os.Started) (H : Type) (enc : TypeId × Value → H) (F : Stop.Interp) :
    ReturnsInHanded {} Tryd.checked os 7 .any ((OpenSpec.ofChange Rows.bitsConvertsSpec).preRow enc Tryd.prog Tryd.f7 Rows.bitsConvertsRow.domain false Rows.bitsConvertsRow.laid) (((OpenSpec.ofChange Rows.bitsConvertsSpec).at F).post enc Tryd.prog Tryd.f7 false true false false) := by
  obtain ⟨places, hx⟩ := bconverts_reads os enc
  refine returnsInHanded_of_row (C := Tryd.checked) (s := OpenSpec.ofChange Rows.bitsConvertsSpec) ownB started (by kernel_rfl) Tryd.func7
    (witness_row_at (enc := enc) (C := Tryd.checked) false (btWorld os) #[.int .u64 0] rfl (by kernel_rfl) (by kernel_rfl) (by kernel_rfl)
      (OpenSpec.preRow_of_cond 8 hx (by kernel_rfl) (fun k hk => by cases hk) (by kernel_rfl) (bconverts_laid os))) ?_
  intro W base args ds gs before hval hW _ _ hsz hL _ _
  exact bconverts_contract H enc W base args ds gs before hval hW hsz hL

theorem bconverts_said : Rows.BitsConvertsSaid :=
  OpenClaim.holds_of_cond 7 Tryd.f7 rfl rfl rfl rfl rfl rfl rfl ⟨rfl, rfl, rfl, rfl, rfl⟩ rfl rfl rfl rfl rfl (by kernel_rfl) Tryd.func7 (by kernel_rfl)
    (of_decide_eq_true (by kernel_rfl)) (by unfold Func.isWrapper; first | (rw [if_pos (by decide +kernel)]; kernel_rfl) | (rw [if_neg (by decide +kernel)]; exact ⟨rfl, rfl⟩))
    (fun os started H enc _ F => by rw [OpenClaim.pre_eq_preRow]; exact bconverts_lifted os started H enc F)

theorem bconverts_plain (f : FuncId) (fn : Func) (hf : Tryd.pinned.checked.prog.funcNamed "numeral/numerallaw11.BitsConverts" = some f) (hfn : Tryd.pinned.checked.prog.funcs[f]? = some fn) :
    true = Tryd.pinned.checked.prog.looks [] ∧ ∀ (j : Nat) t, fn.params[j]? = some t → Tryd.pinned.checked.prog.wantsStandIn t = false := by
  obtain rfl : f = 7 := Option.some.inj ((show Tryd.prog.funcNamed "numeral/numerallaw11.BitsConverts" = some 7 by kernel_rfl).symm.trans hf) |>.symm
  obtain rfl : fn = Tryd.f7 := (Option.some.inj (Tryd.func7.symm.trans hfn)).symm
  refine ⟨by kernel_rfl, fun j t ht => ?_⟩
  rw [Tryd.params7] at ht
  have : t = 22 := by simpa using Array.mem_of_getElem? ht
  rcases this with rfl
  · exact (show Tryd.prog.wantsStandIn 22 = false by kernel_rfl)

theorem bitsConverts_card : Rows.BitsConvertsCardSaid :=
  Claim7.holds_tied_plain_at .later [] _ _ _ _ bconverts_said (fun _ h => by cases h) (by kernel_rfl) (fun _ h => by cases h) bitsConverts_row_tie rfl ⟨rfl, rfl⟩ (by kernel_rfl) rfl bconverts_plain (by kernel_rfl)
#print axioms bitsConverts_card

end Go.Proofs.YtdejfjlcknfbbaaDoor
