/-
  Proved: where the arguments hold together at most 1048576 values and letters, the call of ParseNear (no float is nearer to a decimal text's exact number than the answer; ErrRange just where it is not below half way from the greatest to the next power of two: PS5) returns true, and its arguments read behind the call as they read before; the listed variables lie as the program's text lays them (the card ties them to the pruned copy of the program).
-/
import Derived.Test.YteeobndfnkeldaaGreatDoorXn2
import Derived.Test.YteeobndfnkeldaaGreatDoorXn3
import Derived.Test.YteeobndfnkeldaaGreatDoorXn4
import Derived.Test.YteeobndfnkeldaaGreatDoorXn12
import Derived.Test.YteeobndfnkeldaaGreatDoorXn17
import Derived.Test.YteeobndfnkeldaaGreatDoorXn22
import Derived.Test.YteeobndfnkeldaaGreatDoorXn39
import Derived.Test.YteeobndfnkeldaaGreatDoorXn40
import Derived.Test.YteeobndfnkeldaaGreatDoorXn41
import Derived.Test.YteeobndfnkeldaaGreatDoorXn48
import Derived.Test.YteeobndfnkeldaaGreatDoorPsXXn
import Derived.Test.YteeobndfnkeldaaGreatDoorFactPNear
import Derived.Test.YteeobndfnkeldaaGreatDoorCards
import Derived.Test.YteeobndfnkeldaaGreatDoorTie
namespace Go.Proofs.YteeobndfnkeldaaGreatDoor
open Go.ChangeShapes Go.WideShapes Go.ChangeAt Go.RowKit Go.Joins

theorem pnear_short {H : Type} {s : ByteArray} {z : Int} (hk : Rows.uptoSmall H [.lit (.string s.data.toList), .lit (.int .i64 z)] = true) : s.size ≤ 1048576 := by
  have h : Rows.uptoBulkAll [DataW.lit (H := H) (.string s.data.toList), .lit (.int .i64 z)] ≤ 1048576 := of_decide_eq_true hk
  simp only [Rows.uptoBulkAll, Rows.uptoBulk] at h
  have e : s.data.toList.length = s.size := rfl
  omega
set_option maxRecDepth 100000 in
theorem pnear_contract (H : Type) (enc : TypeId × Value → H) (W : World) (base : Nat) (args : Array Value) (ds gs : List (DataW H)) (before : List MemPlace)
    (hval : ∀ (j : Nat) t v, Tryz.f5.params[j]? = some t → args[j]? = some v → Value.okWide Tryz.prog W .any base t v)
    (hW : DataW.Whole enc Tryz.prog Tryz.f5.params.toList Rows.parseNearSpec.vars false W args.toList ds gs before) (hk : Rows.uptoSmall H (ds ++ gs) = true) (hL : laidMetH Tryz.prog psLaid W) :
    Calls Tryz.prog 5 args W fun e W' => ∃ v, e = .returned v ∧ Rows.parseNearSpec.post enc Tryz.prog Tryz.f5 false true false false W args v W' := by
  have hW' := hW
  obtain ⟨p, q, hA0, hV, rfl, hfz, hnd⟩ := hW
  have hA : DataW.TrodAll enc Tryz.prog W 0 (fun _ => true) true Tryz.f5.params.toList args.toList ds p := hA0
  rw [Tryz.params5] at hA hval
  obtain ⟨v0, v1, d0, d1, p0, p1, rfl, rfl, rfl, h0, h1⟩ := trodAll_two hA
  obtain ⟨rfl, rfl⟩ := trodVars_none hV
  obtain ⟨s, rfl, rfl, rfl, w0⟩ := Go.ChangeMaps.open_string Tryz.underlying9 (hval 0 9 v0 rfl rfl) h0
  obtain ⟨x1, rfl, rfl, rfl, y1⟩ := open_int Tryz.underlying3 (hval 1 3 v1 rfl rfl) h1
  clear hA0
  simp only [List.append_nil] at hW' hk
  have zs := pnear_short hk
  have hT := tab_of hL
  have hE := errD_of hL
  refine (pnear_law s.data.toList zs x1 W hT hE).mono fun e W' ⟨he, hg⟩ => ?_
  subst he
  exact ⟨_, rfl, _, _, _, [], [], [], hW', trodAll_mk1 (shut_bool Tryz.underlying4 _), trodAll_mk2 (Go.ChangeMaps.shut_string Tryz.underlying9 w0) (shut_int Tryz.underlying3 y1), rfl,
    hg.frame _, fun h => by cases h⟩

theorem pnear_laid (os : Os) : laidMetH Tryz.prog psLaid ((psWorld os).forCall (fun _ _ => 0) ⟨#[], #[.string ⟨#[]⟩, .int .i64 0], []⟩).memory :=
  laidMetH_of_parts (by rw [psLaid_n]; exact laidMet_of_run' 8 (by kernel_rfl) (by kernel_rfl)) (by rw [psLaid_h]; kernel_rfl)
theorem pnear_reads (os : Os) {H : Type} (enc : TypeId × Value → H) : ∃ places, DataW.whole enc Tryz.prog ((psWorld os).forCall (fun _ _ => 0) ⟨#[], #[.string ⟨#[]⟩, .int .i64 0], []⟩).memory Tryz.f5.params.toList Rows.parseNearSpec.vars false (#[Value.string ⟨#[]⟩, .int .i64 0] : Array Value).toList 8 = some ([.lit (.string []), .lit (.int .i64 0)], [], places) :=
  ⟨[], by kernel_rfl⟩

set_option maxRecDepth 100000 in
theorem pnear_lifted (os : Os) (started : os.Started) (H : Type) (enc : TypeId × Value → H) (F : Stop.Interp) :
    ReturnsInHanded {} Tryz.checked os 5 .any ((Rows.OpenSpec.upto Rows.parseNearSpec).preRow enc Tryz.prog Tryz.f5 Rows.parseNearUptoRow.domain false psLaid) (((Rows.OpenSpec.upto Rows.parseNearSpec).at F).post enc Tryz.prog Tryz.f5 false true false false) := by
  obtain ⟨places, hx⟩ := pnear_reads os enc
  refine returnsInHanded_of_row (C := Tryz.checked) (s := Rows.OpenSpec.upto Rows.parseNearSpec) ownP started (by kernel_rfl) Tryz.func5
    (witness_row_at (enc := enc) (C := Tryz.checked) false (psWorld os) #[.string ⟨#[]⟩, .int .i64 0] rfl (by kernel_rfl) (by kernel_rfl) (by kernel_rfl)
      (OpenSpec.preRow_of_cond 8 hx (by kernel_rfl) (fun k hk => by cases hk; kernel_rfl) (by kernel_rfl) (pnear_laid os))) ?_
  intro W base args ds gs before hval hW _ hcond _ hL _ _
  exact pnear_contract H enc W base args ds gs before hval hW (hcond _ rfl) hL

theorem pnear_said : Rows.ParseNearUptoSaid :=
  OpenClaim.holds_of_cond 5 Tryz.f5 rfl rfl rfl rfl rfl rfl rfl ⟨rfl, rfl, rfl, rfl, rfl⟩ rfl rfl rfl rfl rfl pnear_named Tryz.func5 pnear_facts
    (of_decide_eq_true (by kernel_rfl)) (by unfold Func.isWrapper; first | (rw [if_pos (by decide +kernel)]; kernel_rfl) | (rw [if_neg (by decide +kernel)]; exact ⟨rfl, rfl⟩))
    (fun os started H enc _ F => by rw [OpenClaim.pre_eq_preRow]; exact pnear_lifted os started H enc F)

theorem pnear_plain (f : FuncId) (fn : Func) (hf : Tryz.pinned.checked.prog.funcNamed "numeral/numerallaw18.ParseNear" = some f) (hfn : Tryz.pinned.checked.prog.funcs[f]? = some fn) :
    true = Tryz.pinned.checked.prog.looks [] ∧ ∀ (j : Nat) t, fn.params[j]? = some t → Tryz.pinned.checked.prog.wantsStandIn t = false := by
  obtain rfl : f = 5 := Option.some.inj ((show Tryz.prog.funcNamed "numeral/numerallaw18.ParseNear" = some 5 by kernel_rfl).symm.trans hf) |>.symm
  obtain rfl : fn = Tryz.f5 := (Option.some.inj (Tryz.func5.symm.trans hfn)).symm
  refine ⟨by kernel_rfl, fun j t ht => ?_⟩
  rw [Tryz.params5] at ht
  have ht' : t = 9 ∨ t = 3 := by simpa [or_assoc] using Array.mem_of_getElem? ht
  rcases ht' with rfl | rfl
  · exact (show Tryz.prog.wantsStandIn 9 = false by kernel_rfl)
  · exact (show Tryz.prog.wantsStandIn 3 = false by kernel_rfl)

theorem parseNear_card : Rows.ParseNearUptoCardSaid :=
  Claim7.holds_tied_plain_at .later [] _ _ _ _ pnear_said (fun _ h => by cases h) (by kernel_rfl) (fun _ h => by cases h) parseNearUpto_row_tie rfl ⟨rfl, rfl⟩ (by kernel_rfl) rfl pnear_plain (by kernel_rfl)
#print axioms parseNear_card

end Go.Proofs.YteeobndfnkeldaaGreatDoor
