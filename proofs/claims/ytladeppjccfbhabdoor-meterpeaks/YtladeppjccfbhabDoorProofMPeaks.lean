/-
  Proved: for every slice of ints and either bool the call of MeterPeaks (what lives is never above the peak; what is taken and given back leaves what was: ME3) returns true, and its arguments read behind the call as they read before; the listed variables lie as the program's text lays them (the card ties them to the pruned copy of the program).
-/
import Derived.Test.YtladeppjccfbhabDoorLawMPeaks
import Derived.Test.YtladeppjccfbhabDoorMetX
import Derived.Test.YtladeppjccfbhabDoorCards
import Derived.Test.YtladeppjccfbhabDoorTie
namespace Go.Proofs.YtladeppjccfbhabDoor
open Go.ChangeShapes Go.WideShapes Go.ChangeAt Go.RowKit Go.Joins

set_option maxRecDepth 100000 in
theorem sli_open {H : Type} {enc : TypeId × Value → H} {W : World} {base : Nat} {v : Value} {d : DataW H} {ps : List MemPlace}
    (hv : Value.okWide Tryd.prog W .any base 35 v) (h : DataW.Trod enc Tryd.prog W 0 (fun _ => true) true 35 v d ps) :
    ∃ ao n c b o f, v = .slice ao n c ∧ SlI W ao n c b o f := by
  obtain ⟨a0, n, c, rfl⟩ := okWide_slice Tryd.underlying35 hv
  obtain ⟨fuel, hf⟩ := h
  rcases open_ints Tryd.underlying35 Tryd.underlying3 cellsInt hf with ⟨hcs, hx⟩ | ⟨a, len', cap', zs, hcs, _, hl, hm, hz, hx, hcell, hwz⟩
  · simp [Value.cells] at hcs
    obtain ⟨rfl, rfl, rfl⟩ := hcs
    exact ⟨_, _, _, 0, 0, fun _ => 0, rfl, by omega, by unfold maxLen; omega, fun h => by omega, fun h => by omega, fun i hi => by omega⟩
  · simp [Value.cells] at hcs
    obtain ⟨rfl, rfl, rfl⟩ := hcs
    simp only [if_true] at hz
    have sp : 0 < n → a.spot = none := by
      intro h
      have q := hcell 0 (by omega)
      cases s : a.spot with
      | none => rfl
      | some k =>
        simp only [Addr.add, if_pos] at q
        unfold World.cell? at q
        rw [s] at q
        split at q
        · simp at q
        · cases q
    have ad : 0 < n → a = ⟨a.block, a.off, none⟩ := fun h => by
      have := sp h
      cases a
      simp only at this
      subst this
      rfl
    have cl : ∀ i, i < n → W.cell? ⟨a.block, a.off + i, none⟩ = some (.int .i64 (zs.getD i 0)) := by
      intro i hi
      have q := hcell i (by omega)
      unfold Addr.add at q
      split at q
      · rename_i hi0
        subst hi0
        rw [ad (by omega)] at q
        exact q
      · exact q
    exact ⟨_, _, _, a.block, a.off, fun i => zs.getD i 0, rfl, hl, hm, fun h => by rw [← ad h], fun h => World.block_lt_of_cell? W ⟨a.block, a.off + 0, none⟩ (cl 0 h), fun i hi => cl i hi⟩

set_option maxRecDepth 100000 in
theorem mpeaks_contract (H : Type) (enc : TypeId × Value → H) (W : World) (base : Nat) (args : Array Value) (ds gs : List (DataW H)) (before : List MemPlace)
    (hval : ∀ (j : Nat) t v, Tryd.f4.params[j]? = some t → args[j]? = some v → Value.okWide Tryd.prog W .any base t v)
    (hW : DataW.Whole enc Tryd.prog Tryd.f4.params.toList Rows.meterPeaksSpec.vars false W args.toList ds gs before) (_hL : laidMetH Tryd.prog metLaid W) :
    Calls Tryd.prog 4 args W fun e W' => ∃ v, e = .returned v ∧ Rows.meterPeaksSpec.post enc Tryd.prog Tryd.f4 false true false false W args v W' := by
  have hW' := hW
  obtain ⟨p, q, hA0, hV, rfl, hfz, hnd⟩ := hW
  have hA : DataW.TrodAll enc Tryd.prog W 0 (fun _ => true) true Tryd.f4.params.toList args.toList ds p := hA0
  rw [Tryd.params4] at hA hval
  obtain ⟨v0, v1, d0, d1, p0, p1, rfl, rfl, rfl, h0, h1⟩ := trodAll_two hA
  obtain ⟨rfl, rfl⟩ := trodVars_none hV
  obtain ⟨a0, n0, c0, b0, o0, f0, rfl, S0⟩ := sli_open (hval 0 35 v0 rfl rfl) h0
  obtain ⟨g, rfl, rfl, rfl⟩ := open_bool Tryd.underlying4 (hval 1 4 v1 rfl rfl) h1
  clear hA0
  simp only [List.append_nil] at hW'
  have hl0 : ∀ x ∈ p0, x.block < W.heap.size := fun x hx => hW'.lt x (by simpa using hx)
  refine (law_mpeaks (g := g) W S0).mono fun e W' ⟨he, hg⟩ => ?_
  subst he
  have t0 := Below.trod laidOutM (by kernel_rfl) (of_decide_eq_true (by kernel_rfl)) h0 hg hl0
  exact ⟨_, rfl, _, _, _, [], _, [], hW', trodAll_mk1 (shut_bool Tryd.underlying4 _), trodAll_mk2 t0 (shut_bool Tryd.underlying4 _), rfl,
    hg.frame _, fun h => by cases h⟩

theorem mpeaks_laid (os : Os) : laidMetH Tryd.prog metLaid ((metWorld os).forCall (fun _ _ => 0) ⟨#[], #[.slice none 0 0, .bool false], []⟩).memory :=
  laid_HM (laidMet_of_run' 8 (by kernel_rfl) (by kernel_rfl))
theorem mpeaks_reads (os : Os) {H : Type} (enc : TypeId × Value → H) : ∃ places, DataW.whole enc Tryd.prog ((metWorld os).forCall (fun _ _ => 0) ⟨#[], #[.slice none 0 0, .bool false], []⟩).memory Tryd.f4.params.toList Rows.meterPeaksSpec.vars false #[Value.slice none 0 0, .bool false].toList 8 = some ([.nil, .lit (.bool false)], [], places) :=
  ⟨[], by kernel_rfl⟩

set_option maxRecDepth 100000 in
theorem mpeaks_lifted (os : Os) (started : os.Started) (H : Type) (enc : TypeId × Value → H) (F : Stop.Interp) :
    ReturnsInHanded {} Tryd.checked os 4 .any ((OpenSpec.ofChange Rows.meterPeaksSpec).preRow enc Tryd.prog Tryd.f4 Rows.meterPeaksRow.domain false metLaid) (((OpenSpec.ofChange Rows.meterPeaksSpec).at F).post enc Tryd.prog Tryd.f4 false true false false) := by
  obtain ⟨places, hx⟩ := mpeaks_reads os enc
  refine returnsInHanded_of_row (C := Tryd.checked) (s := OpenSpec.ofChange Rows.meterPeaksSpec) ownM started (by kernel_rfl) Tryd.func4
    (witness_row_at (enc := enc) (C := Tryd.checked) false (metWorld os) #[.slice none 0 0, .bool false] rfl (by kernel_rfl) (by kernel_rfl) (by kernel_rfl)
      (OpenSpec.preRow_of_cond 8 hx (by kernel_rfl) (fun k hk => by cases hk) (by kernel_rfl) (mpeaks_laid os))) ?_
  intro W base args ds gs before hval hW _ _ _ hL _ _
  exact mpeaks_contract H enc W base args ds gs before hval hW hL

theorem mpeaks_said : Rows.MeterPeaksSaid :=
  OpenClaim.holds_of_cond 4 Tryd.f4 rfl rfl rfl rfl rfl rfl rfl ⟨rfl, rfl, rfl, rfl, rfl⟩ rfl rfl rfl rfl rfl (by kernel_rfl) Tryd.func4 (by kernel_rfl)
    (of_decide_eq_true (by kernel_rfl)) (by unfold Func.isWrapper; first | (rw [if_pos (by decide +kernel)]; kernel_rfl) | (rw [if_neg (by decide +kernel)]; exact ⟨rfl, rfl⟩))
    (fun os started H enc _ F => by rw [OpenClaim.pre_eq_preRow]; exact mpeaks_lifted os started H enc F)

theorem mpeaks_plain (f : FuncId) (fn : Func) (hf : Tryd.pinned.checked.prog.funcNamed "numeral/numerallaw04.MeterPeaks" = some f) (hfn : Tryd.pinned.checked.prog.funcs[f]? = some fn) :
    false = Tryd.pinned.checked.prog.looks [] ∧ ∀ (j : Nat) t, fn.params[j]? = some t → Tryd.pinned.checked.prog.wantsStandIn t = false := by
  obtain rfl : f = 4 := Option.some.inj ((show Tryd.prog.funcNamed "numeral/numerallaw04.MeterPeaks" = some 4 by kernel_rfl).symm.trans hf) |>.symm
  obtain rfl : fn = Tryd.f4 := (Option.some.inj (Tryd.func4.symm.trans hfn)).symm
  refine ⟨by kernel_rfl, fun j t ht => ?_⟩
  rw [Tryd.params4] at ht
  have : t = 35 ∨ t = 4 := by simpa using Array.mem_of_getElem? ht
  rcases this with rfl | rfl
  · exact (show Tryd.prog.wantsStandIn 35 = false by kernel_rfl)
  · exact (show Tryd.prog.wantsStandIn 4 = false by kernel_rfl)

theorem meterPeaks_card : Rows.MeterPeaksCardSaid :=
  Claim7.holds_tied_plain_at .later [] _ _ _ _ mpeaks_said (fun _ h => by cases h) (by kernel_rfl) (fun _ h => by cases h) meterPeaks_row_tie rfl ⟨rfl, rfl⟩ (by kernel_rfl) rfl mpeaks_plain (by kernel_rfl)
#print axioms meterPeaks_card

end Go.Proofs.YtladeppjccfbhabDoor
