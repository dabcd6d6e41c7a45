/-
  Proved: for every number b and size the call of IntervalApart (a float's value lies in its own interval and in no neighbour's; neighbours' intervals meet at one number, which belongs to the one whose last bit is 0; nine digits lie in each of size 32, seventeen in each of 64: IV3) returns true, and its arguments read behind the call as they read before; unicode/utf8.acceptRanges and unicode/utf8.first lie as the program's text lays them (the card ties them to the pruned copy of the program).
-/
import Derived.Test.YtdfefjcobeopbaaDoorKc19
import Derived.Test.YtdfefjcobeopbaaDoorKc22
import Derived.Test.YtdfefjcobeopbaaDoorKc23
import Derived.Test.YtdfefjcobeopbaaDoorCards
import Derived.Test.YtdfefjcobeopbaaDoorTie
namespace Go.Proofs.YtdfefjcobeopbaaDoor
open Go.ChangeShapes Go.WideShapes Go.ChangeAt Go.RowKit Go.Joins

set_option maxRecDepth 100000 in
theorem ivapart_contract (H : Type) (enc : TypeId × Value → H) (W : World) (base : Nat) (args : Array Value) (ds gs : List (DataW H)) (before : List MemPlace)
    (hval : ∀ (j : Nat) t v, Tryd.f3.params[j]? = some t → args[j]? = some v → Value.okWide Tryd.prog W .any base t v)
    (hW : DataW.Whole enc Tryd.prog Tryd.f3.params.toList Rows.intervalApartSpec.vars false W args.toList ds gs before) (_ : laidMetH Tryd.prog apLaid W) :
    Calls Tryd.prog 3 args W fun e W' => ∃ v, e = .returned v ∧ Rows.intervalApartSpec.post enc Tryd.prog Tryd.f3 false true false false W args v W' := by
  have hW' := hW
  obtain ⟨p, q, hA0, hV, rfl, hfz, hnd⟩ := hW
  have hA : DataW.TrodAll enc Tryd.prog W 0 (fun _ => true) true Tryd.f3.params.toList args.toList ds p := hA0
  rw [Tryd.params3] at hA hval
  obtain ⟨v0, v1, d0, d1, p0, p1, rfl, rfl, rfl, h0, h1⟩ := trodAll_two hA
  obtain ⟨rfl, rfl⟩ := trodVars_none hV
  obtain ⟨x0, rfl, rfl, rfl, y0⟩ := open_int Tryd.underlying22 (hval 0 22 v0 rfl rfl) h0
  obtain ⟨b0, rfl, z0⟩ := nat_of_u64 y0
  obtain ⟨x1, rfl, rfl, rfl, y1⟩ := open_int Tryd.underlying3 (hval 1 3 v1 rfl rfl) h1
  clear hA0
  simp only [List.append_nil] at hW'
  refine (law_apart b0 z0 x1 W).mono fun e W' ⟨he, hg⟩ => ?_
  subst he
  exact ⟨_, rfl, _, _, _, [], [], [], hW', trodAll_mk1 (shut_bool Tryd.underlying4 _), trodAll_mk2 (shut_int Tryd.underlying22 y0) (shut_int Tryd.underlying3 y1), rfl,
    hg.frame _, fun h => by cases h⟩

theorem ivapart_laid (os : Os) : laidMetH Tryd.prog apLaid ((apWorld os).forCall (fun _ _ => 0) ⟨#[], #[.int .u64 0, .int .i64 0], []⟩).memory :=
  laidMetH_of_parts (by rw [apLaid_n]; exact laidMet_of_run' 8 (by kernel_rfl) (by kernel_rfl)) (by rw [apLaid_h]; kernel_rfl)
theorem ivapart_reads (os : Os) {H : Type} (enc : TypeId × Value → H) : ∃ places, DataW.whole enc Tryd.prog ((apWorld os).forCall (fun _ _ => 0) ⟨#[], #[.int .u64 0, .int .i64 0], []⟩).memory Tryd.f3.params.toList Rows.intervalApartSpec.vars false #[Value.int .u64 0, .int .i64 0].toList 8 = some ([.lit (.int .u64 0), .lit (.int .i64 0)], [], places) :=
  ⟨[], by kernel_rfl⟩

set_option maxRecDepth 100000 in
theorem ivapart_lifted (os : Os) (started : os.Started) (H : Type) (enc : TypeId × Value → H) (F : Stop.Interp) :
    ReturnsInHanded {} Tryd.checked os 3 .any ((OpenSpec.ofChange Rows.intervalApartSpec).preRow enc Tryd.prog Tryd.f3 Rows.intervalApartRow.domain false apLaid) (((OpenSpec.ofChange Rows.intervalApartSpec).at F).post enc Tryd.prog Tryd.f3 false true false false) := by
  obtain ⟨places, hx⟩ := ivapart_reads os enc
  refine returnsInHanded_of_row (C := Tryd.checked) (s := OpenSpec.ofChange Rows.intervalApartSpec) ownD started (by kernel_rfl) Tryd.func3
    (witness_row_at (enc := enc) (C := Tryd.checked) false (apWorld os) #[.int .u64 0, .int .i64 0] rfl (by kernel_rfl) (by kernel_rfl) (by kernel_rfl)
      (OpenSpec.preRow_of_cond 8 hx (by kernel_rfl) (fun k hk => by cases hk) (by kernel_rfl) (ivapart_laid os))) ?_
  intro W base args ds gs before hval hW _ _ _ hL _ _
  exact ivapart_contract H enc W base args ds gs before hval hW hL

theorem ivapart_said : Rows.IntervalApartSaid :=
  OpenClaim.holds_of_cond 3 Tryd.f3 rfl rfl rfl rfl rfl rfl rfl ⟨rfl, rfl, rfl, rfl, rfl⟩ rfl rfl rfl rfl rfl (by kernel_rfl) Tryd.func3 (by kernel_rfl)
    (of_decide_eq_true (by kernel_rfl)) (by unfold Func.isWrapper; first | (rw [if_pos (by decide +kernel)]; kernel_rfl) | (rw [if_neg (by decide +kernel)]; exact ⟨rfl, rfl⟩))
    (fun os started H enc _ F => by rw [OpenClaim.pre_eq_preRow]; exact ivapart_lifted os started H enc F)

theorem ivapart_plain (f : FuncId) (fn : Func) (hf : Tryd.pinned.checked.prog.funcNamed "numeral/numerallaw19.IntervalApart" = some f) (hfn : Tryd.pinned.checked.prog.funcs[f]? = some fn) :
    false = Tryd.pinned.checked.prog.looks [] ∧ ∀ (j : Nat) t, fn.params[j]? = some t → Tryd.pinned.checked.prog.wantsStandIn t = false := by
  obtain rfl : f = 3 := Option.some.inj ((show Tryd.prog.funcNamed "numeral/numerallaw19.IntervalApart" = some 3 by kernel_rfl).symm.trans hf) |>.symm
  obtain rfl : fn = Tryd.f3 := (Option.some.inj (Tryd.func3.symm.trans hfn)).symm
  refine ⟨by kernel_rfl, fun j t ht => ?_⟩
  rw [Tryd.params3] at ht
  have : t = 22 ∨ t = 3 := by simpa using Array.mem_of_getElem? ht
  rcases this with rfl | rfl
  · exact (show Tryd.prog.wantsStandIn 22 = false by kernel_rfl)
  · exact (show Tryd.prog.wantsStandIn 3 = false by kernel_rfl)

theorem intervalApart_card : Rows.IntervalApartCardSaid :=
  Claim7.holds_tied_plain_at .later [] _ _ _ _ ivapart_said (fun _ h => by cases h) (by kernel_rfl) (fun _ h => by cases h) intervalApart_row_tie rfl ⟨rfl, rfl⟩ (by kernel_rfl) rfl ivapart_plain (by kernel_rfl)
#print axioms intervalApart_card

end Go.Proofs.YtdfefjcobeopbaaDoor
