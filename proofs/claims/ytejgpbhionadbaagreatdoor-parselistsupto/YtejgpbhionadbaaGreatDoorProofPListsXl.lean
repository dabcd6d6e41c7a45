/-
  Proved: where the arguments hold together at most 1048576 values and letters, the call of ParseLists (all texts in turn, up to the first that fails; whether two texts are the same float; or the errors: PS3) returns true, and its arguments read behind the call as they read before; the listed variables lie as the program's text lays them (the card ties them to the pruned copy of the program).
-/
import Derived.Test.YtejgpbhionadbaaGreatDoorXl2
import Derived.Test.YtejgpbhionadbaaGreatDoorXl3
import Derived.Test.YtejgpbhionadbaaGreatDoorXl12
import Derived.Test.YtejgpbhionadbaaGreatDoorXl17
import Derived.Test.YtejgpbhionadbaaGreatDoorXl22
import Derived.Test.YtejgpbhionadbaaGreatDoorXl37
import Derived.Test.YtejgpbhionadbaaGreatDoorXl45
import Derived.Test.YtejgpbhionadbaaGreatDoorXl46
import Derived.Test.YtejgpbhionadbaaGreatDoorPsXXl
import Derived.Test.YtejgpbhionadbaaGreatDoorFactPLists
import Derived.Test.YtejgpbhionadbaaGreatDoorCards
import Derived.Test.YtejgpbhionadbaaGreatDoorTie
namespace Go.Proofs.YtejgpbhionadbaaGreatDoor
open Go.ChangeShapes Go.WideShapes Go.ChangeAt Go.RowKit Go.Joins

set_option maxRecDepth 100000 in
theorem plists_contract (H : Type) (enc : TypeId × Value → H) (W : World) (base : Nat) (args : Array Value) (ds gs : List (DataW H)) (before : List MemPlace)
    (hval : ∀ (j : Nat) t v, Tryz.f3.params[j]? = some t → args[j]? = some v → Value.okWide Tryz.prog W .any base t v)
    (hW : DataW.Whole enc Tryz.prog Tryz.f3.params.toList Rows.parseListsSpec.vars false W args.toList ds gs before) (hk : Rows.uptoSmall H (ds ++ gs) = true) (hL : laidMetH Tryz.prog psLaid W) :
    Calls Tryz.prog 3 args W fun e W' => ∃ v, e = .returned v ∧ Rows.parseListsSpec.post enc Tryz.prog Tryz.f3 false true false false W args v W' := by
  have hW' := hW
  obtain ⟨p, q, hA0, hV, rfl, hfz, hnd⟩ := hW
  have hA : DataW.TrodAll enc Tryz.prog W 0 (fun _ => true) true Tryz.f3.params.toList args.toList ds p := hA0
  rw [Tryz.params3] at hA hval
  obtain ⟨v0, v1, d0, d1, p0, p1, rfl, rfl, rfl, h0, h1⟩ := trodAll_two hA
  obtain ⟨rfl, rfl⟩ := trodVars_none hV
  obtain ⟨ao, n, c, b, o, f, rfl, S0, hd⟩ := aHB (hval 0 22 v0 rfl rfl) h0
  obtain ⟨x1, rfl, rfl, rfl, y1⟩ := open_int Tryz.underlying3 (hval 1 3 v1 rfl rfl) h1
  clear hA0
  simp only [List.append_nil] at hW' hk
  have zs := zV hd hk
  have S := S0 zs.1 zs.2
  have hl0 : ∀ x ∈ p0, x.block < W.heap.size := fun x hx => hW'.lt x (by simpa using hx)
  have hT := tab_of hL
  have hE := errD_of hL
  refine (aCA hT hE S (z := x1)).mono fun e W' ⟨he, hg⟩ => ?_
  subst he
  have t0 := Below.trod aGL (by kernel_rfl) (of_decide_eq_true (by kernel_rfl)) h0 hg hl0
  exact ⟨_, rfl, _, _, _, [], _, [], hW', trodAll_mk1 (shut_bool Tryz.underlying4 _), trodAll_mk2 t0 (shut_int Tryz.underlying3 y1), rfl,
    hg.frame _, fun h => by cases h⟩

theorem plists_laid (os : Os) : laidMetH Tryz.prog psLaid ((psWorld os).forCall (fun _ _ => 0) ⟨#[], #[.slice none 0 0, .int .i64 0], []⟩).memory :=
  laidMetH_of_parts (by rw [psLaid_n]; exact laidMet_of_run' 8 (by kernel_rfl) (by kernel_rfl)) (by rw [psLaid_h]; kernel_rfl)
theorem plists_reads (os : Os) {H : Type} (enc : TypeId × Value → H) : ∃ places, DataW.whole enc Tryz.prog ((psWorld os).forCall (fun _ _ => 0) ⟨#[], #[.slice none 0 0, .int .i64 0], []⟩).memory Tryz.f3.params.toList Rows.parseListsSpec.vars false (#[Value.slice none 0 0, .int .i64 0] : Array Value).toList 8 = some ([.nil, .lit (.int .i64 0)], [], places) :=
  ⟨[], by kernel_rfl⟩

set_option maxRecDepth 100000 in
theorem plists_lifted (os : Os) (started : os.Started) (H : Type) (enc : TypeId × Value → H) (F : Stop.Interp) :
    ReturnsInHanded {} Tryz.checked os 3 .any ((Rows.OpenSpec.upto Rows.parseListsSpec).preRow enc Tryz.prog Tryz.f3 Rows.parseListsUptoRow.domain false psLaid) (((Rows.OpenSpec.upto Rows.parseListsSpec).at F).post enc Tryz.prog Tryz.f3 false true false false) := by
  obtain ⟨places, hx⟩ := plists_reads os enc
  refine returnsInHanded_of_row (C := Tryz.checked) (s := Rows.OpenSpec.upto Rows.parseListsSpec) ownP started (by kernel_rfl) Tryz.func3
    (witness_row_at (enc := enc) (C := Tryz.checked) false (psWorld os) #[.slice none 0 0, .int .i64 0] rfl (by kernel_rfl) (by kernel_rfl) (by kernel_rfl)
      (OpenSpec.preRow_of_cond 8 hx (by kernel_rfl) (fun k hk => by cases hk; kernel_rfl) (by kernel_rfl) (plists_laid os))) ?_
  intro W base args ds gs before hval hW _ hcond _ hL _ _
  exact plists_contract H enc W base args ds gs before hval hW (hcond _ rfl) hL

theorem plists_said : Rows.ParseListsUptoSaid :=
  OpenClaim.holds_of_cond 3 Tryz.f3 rfl rfl rfl rfl rfl rfl rfl ⟨rfl, rfl, rfl, rfl, rfl⟩ rfl rfl rfl rfl rfl plists_named Tryz.func3 plists_facts
    (of_decide_eq_true (by kernel_rfl)) (by unfold Func.isWrapper; first | (rw [if_pos (by decide +kernel)]; kernel_rfl) | (rw [if_neg (by decide +kernel)]; exact ⟨rfl, rfl⟩))
    (fun os started H enc _ F => by rw [OpenClaim.pre_eq_preRow]; exact plists_lifted os started H enc F)

theorem plists_plain (f : FuncId) (fn : Func) (hf : Tryz.pinned.checked.prog.funcNamed "numeral/numerallaw18.ParseLists" = some f) (hfn : Tryz.pinned.checked.prog.funcs[f]? = some fn) :
    true = Tryz.pinned.checked.prog.looks [] ∧ ∀ (j : Nat) t, fn.params[j]? = some t → Tryz.pinned.checked.prog.wantsStandIn t = false := by
  obtain rfl : f = 3 := Option.some.inj ((show Tryz.prog.funcNamed "numeral/numerallaw18.ParseLists" = some 3 by kernel_rfl).symm.trans hf) |>.symm
  obtain rfl : fn = Tryz.f3 := (Option.some.inj (Tryz.func3.symm.trans hfn)).symm
  refine ⟨by kernel_rfl, fun j t ht => ?_⟩
  rw [Tryz.params3] at ht
  have ht' : t = 22 ∨ t = 3 := by simpa [or_assoc] using Array.mem_of_getElem? ht
  rcases ht' with rfl | rfl
  · exact (show Tryz.prog.wantsStandIn 22 = false by kernel_rfl)
  · exact (show Tryz.prog.wantsStandIn 3 = false by kernel_rfl)

theorem parseLists_card : Rows.ParseListsUptoCardSaid :=
  Claim7.holds_tied_plain_at .later [] _ _ _ _ plists_said (fun _ h => by cases h) (by kernel_rfl) (fun _ h => by cases h) parseListsUpto_row_tie rfl ⟨rfl, rfl⟩ (by kernel_rfl) rfl plists_plain (by kernel_rfl)
#print axioms parseLists_card

end Go.Proofs.YtejgpbhionadbaaGreatDoor
