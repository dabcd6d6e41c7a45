/-
  Proved: for every slice of acts and every int the call of MeterRuns (whatever is told to a meter, it says the right counts: ME1, ME2) returns true, and its arguments read behind the call as they read before; the listed variables lie as the program's text lays them (the card ties them to the pruned copy of the program).
-/
import Derived.Test.YtladeppjccfbhaaDoorLawMRuns
import Derived.Test.YtladeppjccfbhaaDoorMetX
import Derived.LaidSub
import Derived.Deep.Slices
import Derived.Lib.AppendIntMem
import Derived.Test.YtladeppjccfbhaaDoorCards
import Derived.Test.YtladeppjccfbhaaDoorTie
namespace Go.Proofs.YtladeppjccfbhaaDoor
open Go.ChangeShapes Go.WideShapes Go.ChangeAt Go.RowKit Go.Joins

theorem list7 {α : Type} {l : List α} (h : l.length = 7) : ∃ c0 c1 c2 c3 c4 c5 c6, l = [c0, c1, c2, c3, c4, c5, c6] := by
  match l, h with
  | [c0, c1, c2, c3, c4, c5, c6], _ => exact ⟨c0, c1, c2, c3, c4, c5, c6, rfl⟩

/-- The number in a cell. -/
def nOf : Option Value → Int
  | some (.int _ z) => z
  | _ => 0

set_option maxRecDepth 100000 in
theorem sla_open {H : Type} {enc : TypeId × Value → H} {W : World} {base : Nat} {v : Value} {d : DataW H} {ps : List MemPlace}
    (hv : Value.okWide Tryd.prog W .any base 52 v) (h : DataW.Trod enc Tryd.prog W 0 (fun _ => true) true 52 v d ps) :
    ∃ ao n c b o f, v = .slice ao n c ∧ SlA W ao n c b o f := by
  obtain ⟨a0, n, c, rfl⟩ := okWide_slice Tryd.underlying52 hv
  obtain ⟨fuel, hf⟩ := h
  rcases Deep.open_slice Tryd.underlying52 hf with ⟨hcs, hx⟩ | ⟨a, len', cap', m, n', D, Pl, hcs, _, hl, hm, hmm, hx, hel⟩
  · simp [Value.cells] at hcs
    obtain ⟨rfl, rfl, rfl⟩ := hcs
    exact ⟨_, _, _, 0, 0, fun _ _ => 0, rfl, by omega, by unfold maxLen; omega, fun h => by omega, fun h => by omega, fun i j hi => by omega, fun i j hi => by omega⟩
  · simp [Value.cells] at hcs
    obtain ⟨rfl, rfl, rfl⟩ := hcs
    simp only [if_true] at hmm
    have row : ∀ i j, i < n → j < 7 → ∃ z : Int, W.cell? ((a.add (i * 7)).add j) = some (.int .i64 z) ∧ z ≤ 9223372036854775807 := by
      intro i j hi hj
      obtain ⟨cs', hc, ht⟩ := hel i (by omega)
      rw [cellsAct] at hc
      obtain ⟨_, hlen, hcell⟩ := World.cells?_some hc
      obtain ⟨c0, c1, c2, c3, c4, c5, c6, rfl⟩ := list7 hlen
      obtain ⟨k, nn, l, pk, e, t, s, e0, ex, w0, w1, u0, u1, u2, u3, u4⟩ := act_open ht
      rw [e0] at hcell
      have q := hcell j hj
      match j, hj with
      | 0, _ => exact ⟨k, q, max_of_wf w0⟩
      | 1, _ => exact ⟨nn, q, max_of_wf w1⟩
      | 2, _ => exact ⟨l, q, max_of_wf u0⟩
      | 3, _ => exact ⟨pk, q, max_of_wf u1⟩
      | 4, _ => exact ⟨e, q, max_of_wf u2⟩
      | 5, _ => exact ⟨t, q, max_of_wf u3⟩
      | 6, _ => exact ⟨s, q, max_of_wf u4⟩
    have sp : 0 < n → a.spot = none := by
      intro h
      obtain ⟨z, q, _⟩ := row 0 0 h (by decide)
      cases s : a.spot with
      | none => rfl
      | some k =>
        simp only [Addr.add, if_pos, Nat.zero_mul] at q
        unfold World.cell? at q
        rw [s] at q
        split at q
        · simp at q
        · cases q
    have ad : 0 < n → a = ⟨a.block, a.off, none⟩ := fun h => by
      have := sp h
      cases a
      simp only at this
      subst this
      rfl
    have cl : ∀ i j, i < n → j < 7 → ∃ z : Int, W.cell? ⟨a.block, a.off + i * 7 + j, none⟩ = some (.int .i64 z) ∧ z ≤ 9223372036854775807 := by
      intro i j hi hj
      obtain ⟨z, q, hz⟩ := row i j hi hj
      refine ⟨z, ?_, hz⟩
      rw [ad (by omega)] at q
      simp only [Lib.add_plain] at q
      exact q
    refine ⟨_, _, _, a.block, a.off, fun i j => nOf (W.cell? ⟨a.block, a.off + i * 7 + j, none⟩), rfl, hl, hm, fun h => by rw [← ad h], fun h => ?_, fun i j hi hj => ?_, fun i j hi hj => ?_⟩
    · obtain ⟨z, q, _⟩ := cl 0 0 h (by decide)
      exact World.block_lt_of_cell? W ⟨a.block, a.off + 0 * 7 + 0, none⟩ q
    · obtain ⟨z, q, _⟩ := cl i j hi hj
      show W.cell? ⟨a.block, a.off + i * 7 + j, none⟩ = some (.int .i64 (nOf (W.cell? ⟨a.block, a.off + i * 7 + j, none⟩)))
      rw [q]
      rfl
    · obtain ⟨z, q, hz⟩ := cl i j hi hj
      show nOf (W.cell? ⟨a.block, a.off + i * 7 + j, none⟩) ≤ 9223372036854775807
      rw [q]
      exact hz

theorem gPow : Tryd.prog.globalNamed "internal/strconv.uint64pow10" = some 6 := by kernel_rfl
theorem gPowType : (Tryd.prog.globals[6]?).map (·.type) = some 179 := by kernel_rfl
theorem cellsPow : Tryd.prog.cellsOf 179 = 20 := by kernel_rfl
theorem cellsU : Tryd.prog.cellsOf 40 = 1 := by kernel_rfl
theorem powData : (Rows.laid_internal_strconv_uint64pow10 : DataW Unit) = Lib.tabData .u64 Lib.pow10Tab := by rfl
theorem powOnly : (metLaid.filter fun x => x.1 == "internal/strconv.uint64pow10") = [("internal/strconv.uint64pow10", Rows.laid_internal_strconv_uint64pow10)] := by kernel_rfl
theorem pow_of {W : World} (h : laidMetH Tryd.prog metLaid W) : PowB W.heap.size W := by
  have q := (laid_plainM h).filter fun x => x.1 == "internal/strconv.uint64pow10"
  rw [powOnly] at q
  have t : Pow W := Lib.tabIs_of_head (rest := []) gPow gPowType Tryd.underlying179 Tryd.underlying40 cellsU cellsPow (by rw [← powData]; exact q)
  intro w' hb
  exact Lib.tabBelow_of_tabIs t w' hb

set_option maxRecDepth 100000 in
theorem mruns_contract (H : Type) (enc : TypeId × Value → H) (W : World) (base : Nat) (args : Array Value) (ds gs : List (DataW H)) (before : List MemPlace)
    (hval : ∀ (j : Nat) t v, Tryd.f7.params[j]? = some t → args[j]? = some v → Value.okWide Tryd.prog W .any base t v)
    (hW : DataW.Whole enc Tryd.prog Tryd.f7.params.toList Rows.meterRunsSpec.vars false W args.toList ds gs before) (hL : laidMetH Tryd.prog metLaid W) :
    Calls Tryd.prog 7 args W fun e W' => ∃ v, e = .returned v ∧ Rows.meterRunsSpec.post enc Tryd.prog Tryd.f7 false true false false W args v W' := by
  have hW' := hW
  obtain ⟨p, q, hA0, hV, rfl, hfz, hnd⟩ := hW
  have hA : DataW.TrodAll enc Tryd.prog W 0 (fun _ => true) true Tryd.f7.params.toList args.toList ds p := hA0
  rw [Tryd.params7] at hA hval
  obtain ⟨v0, v1, d0, d1, p0, p1, rfl, rfl, rfl, h0, h1⟩ := trodAll_two hA
  obtain ⟨rfl, rfl⟩ := trodVars_none hV
  obtain ⟨a0, n0, c0, b0, o0, f0, rfl, S0⟩ := sla_open (hval 0 52 v0 rfl rfl) h0
  obtain ⟨x1, rfl, rfl, rfl, w1⟩ := open_int Tryd.underlying3 (hval 1 3 v1 rfl rfl) h1
  clear hA0
  simp only [List.append_nil] at hW'
  have hl0 : ∀ x ∈ p0, x.block < W.heap.size := fun x hx => hW'.lt x (by simpa using hx)
  refine (law_mruns (kd := x1) W S0 (pow_of hL)).mono fun e W' ⟨he, hg⟩ => ?_
  subst he
  have t0 := Below.trod laidOutM (by kernel_rfl) (of_decide_eq_true (by kernel_rfl)) h0 hg hl0
  exact ⟨_, rfl, _, _, _, [], _, [], hW', trodAll_mk1 (shut_bool Tryd.underlying4 _), trodAll_mk2 t0 (shut_int Tryd.underlying3 w1), rfl,
    hg.frame _, fun h => by cases h⟩

theorem mruns_laid (os : Os) : laidMetH Tryd.prog metLaid ((metWorld os).forCall (fun _ _ => 0) ⟨#[], #[.slice none 0 0, .int .i64 0], []⟩).memory :=
  laid_HM (laidMet_of_run' 8 (by kernel_rfl) (by kernel_rfl))
theorem mruns_reads (os : Os) {H : Type} (enc : TypeId × Value → H) : ∃ places, DataW.whole enc Tryd.prog ((metWorld os).forCall (fun _ _ => 0) ⟨#[], #[.slice none 0 0, .int .i64 0], []⟩).memory Tryd.f7.params.toList Rows.meterRunsSpec.vars false #[Value.slice none 0 0, .int .i64 0].toList 8 = some ([.nil, .lit (.int .i64 0)], [], places) :=
  ⟨[], by kernel_rfl⟩

set_option maxRecDepth 100000 in
theorem mruns_lifted (os : Os) (started : os.Started) (H : Type) (enc : TypeId × Value → H) (F : Stop.Interp) :
    ReturnsInHanded {} Tryd.checked os 7 .any ((OpenSpec.ofChange Rows.meterRunsSpec).preRow enc Tryd.prog Tryd.f7 Rows.meterRunsRow.domain false metLaid) (((OpenSpec.ofChange Rows.meterRunsSpec).at F).post enc Tryd.prog Tryd.f7 false true false false) := by
  obtain ⟨places, hx⟩ := mruns_reads os enc
  refine returnsInHanded_of_row (C := Tryd.checked) (s := OpenSpec.ofChange Rows.meterRunsSpec) ownM started (by kernel_rfl) Tryd.func7
    (witness_row_at (enc := enc) (C := Tryd.checked) false (metWorld os) #[.slice none 0 0, .int .i64 0] rfl (by kernel_rfl) (by kernel_rfl) (by kernel_rfl)
      (OpenSpec.preRow_of_cond 8 hx (by kernel_rfl) (fun k hk => by cases hk) (by kernel_rfl) (mruns_laid os))) ?_
  intro W base args ds gs before hval hW _ _ _ hL _ _
  exact mruns_contract H enc W base args ds gs before hval hW hL

theorem mruns_said : Rows.MeterRunsSaid :=
  OpenClaim.holds_of_cond 7 Tryd.f7 rfl rfl rfl rfl rfl rfl rfl ⟨rfl, rfl, rfl, rfl, rfl⟩ rfl rfl rfl rfl rfl (by kernel_rfl) Tryd.func7 (by kernel_rfl)
    (of_decide_eq_true (by kernel_rfl)) (by unfold Func.isWrapper; first | (rw [if_pos (by decide +kernel)]; kernel_rfl) | (rw [if_neg (by decide +kernel)]; exact ⟨rfl, rfl⟩))
    (fun os started H enc _ F => by rw [OpenClaim.pre_eq_preRow]; exact mruns_lifted os started H enc F)

theorem mruns_plain (f : FuncId) (fn : Func) (hf : Tryd.pinned.checked.prog.funcNamed "numeral/numerallaw04.MeterRuns" = some f) (hfn : Tryd.pinned.checked.prog.funcs[f]? = some fn) :
    true = Tryd.pinned.checked.prog.looks [] ∧ ∀ (j : Nat) t, fn.params[j]? = some t → Tryd.pinned.checked.prog.wantsStandIn t = false := by
  obtain rfl : f = 7 := Option.some.inj ((show Tryd.prog.funcNamed "numeral/numerallaw04.MeterRuns" = some 7 by kernel_rfl).symm.trans hf) |>.symm
  obtain rfl : fn = Tryd.f7 := (Option.some.inj (Tryd.func7.symm.trans hfn)).symm
  refine ⟨by kernel_rfl, fun j t ht => ?_⟩
  rw [Tryd.params7] at ht
  have : t = 52 ∨ t = 3 := by simpa using Array.mem_of_getElem? ht
  rcases this with rfl | rfl
  · exact (show Tryd.prog.wantsStandIn 52 = false by kernel_rfl)
  · exact (show Tryd.prog.wantsStandIn 3 = false by kernel_rfl)

theorem meterRuns_card : Rows.MeterRunsCardSaid :=
  Claim7.holds_tied_plain_at .later [] _ _ _ _ mruns_said (fun _ h => by cases h) (by kernel_rfl) (fun _ h => by cases h) meterRuns_row_tie rfl ⟨rfl, rfl⟩ (by kernel_rfl) rfl mruns_plain (by kernel_rfl)
#print axioms meterRuns_card

end Go.Proofs.YtladeppjccfbhaaDoor
