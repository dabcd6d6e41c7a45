/-
  Proved: for every two numbers a, b of 128 bits, every divisor and every distance the call of WideRing (the theorem of stage 1: WI5) returns true, and its arguments read behind the call as they read before; math/bits' rtable deBruijn64tab lies as the program's text lays it (the card ties it to the pruned copy of the program).
-/
import Derived.Test.YtmbhmiidelcieaaDoorLawRing
import Derived.Test.YtmbhmiidelcieaaDoorRowKit
import Derived.Test.YtmbhmiidelcieaaDoorCards
import Derived.Test.YtmbhmiidelcieaaDoorTie
import Derived.Deep.DeepHandedRow
import Derived.Lib.LaidTab
namespace Go.Proofs.YtmbhmiidelcieaaDoor
open Go.ChangeShapes Go.WideShapes Go.ChangeAt Go.RowKit Go.Joins

theorem rgTab : Tryd.prog.globalNamed "math/bits.deBruijn64tab" = some 0 := by kernel_rfl
theorem rgTabType : (Tryd.prog.globals[0]?).map (·.type) = some 65 := by kernel_rfl
theorem rcellsTab : Tryd.prog.cellsOf 65 = 64 := by kernel_rfl
theorem cellsPart : Tryd.prog.cellsOf 46 = 2 := by kernel_rfl
theorem rcells5 : Tryd.prog.cellsOf 5 = 1 := by kernel_rfl

theorem rtable {W : World} (h : laidMetH Tryd.prog Rows.wideRingRow.laid W) : Lib.TabIs Tryd.prog W "math/bits.deBruijn64tab" .u8 (Lib.deBruijn64tab.map Int.ofNat) :=
  Lib.tabIs_of_head (rest := []) rgTab rgTabType Tryd.underlying65 Tryd.underlying5 rcells5 rcellsTab h

theorem rtab_of {W : World} (h : laidMetH Tryd.prog Rows.wideRingRow.laid W) : Tab W := by
  intro j hj
  have c := (rtable h).cell rgTab j (by rw [List.length_map]; exact hj)
  rw [c]
  congr 2
  rw [List.getD_eq_getElem?_getD, List.getD_eq_getElem?_getD, List.getElem?_map]
  have l : j < Lib.deBruijn64tab.length := hj
  rw [List.getElem?_eq_getElem l]
  rfl

set_option maxRecDepth 100000 in
theorem ring_contract (H : Type) (enc : TypeId × Value → H) (W : World) (base : Nat) (args : Array Value) (ds gs : List (DataW H)) (before : List MemPlace)
    (hval : ∀ (j : Nat) t v, Tryd.f6.params[j]? = some t → args[j]? = some v → Value.okWide Tryd.prog W .any base t v)
    (hW : DataW.Whole enc Tryd.prog Tryd.f6.params.toList Rows.wideRingSpec.vars false W args.toList ds gs before) (hL : laidMetH Tryd.prog Rows.wideRingRow.laid W) :
    Calls Tryd.prog 6 args W fun e W' => ∃ v, e = .returned v ∧ Rows.wideRingSpec.post enc Tryd.prog Tryd.f6 false true false false W args v W' := by
  have hW' := hW
  obtain ⟨p, q, hA0, hV, rfl, hfz, hnd⟩ := hW
  have hA : DataW.TrodAll enc Tryd.prog W 0 (fun _ => true) true Tryd.f6.params.toList args.toList ds p := hA0
  rw [Tryd.params6] at hA hval
  obtain ⟨v0, v1, v2, d0, d1, d2, p0, p1, p2, rfl, rfl, rfl, h0, h1, h2⟩ := trodAll_three hA
  obtain ⟨rfl, rfl⟩ := trodVars_none hV
  obtain ⟨c0, c1, y0, y1, m, rfl, rfl, rfl, hy0, hy1⟩ := open_agg2 Tryd.underlying24 (by kernel_rfl) Tryd.cells24 (hval 0 24 v0 rfl rfl) h0
  obtain ⟨ah, e0, rfl, w0⟩ := DataW.trod_int Tryd.underlying22 hy0
  obtain ⟨al, e1, rfl, w1⟩ := DataW.trod_int Tryd.underlying22 hy1
  simp at e0 e1
  subst e0 e1
  obtain ⟨c0, c1, y0, y1, m', rfl, rfl, rfl, hz0, hz1⟩ := open_agg2 Tryd.underlying24 (by kernel_rfl) Tryd.cells24 (hval 1 24 v1 rfl rfl) h1
  obtain ⟨bh, e0, rfl, w2⟩ := DataW.trod_int Tryd.underlying22 hz0
  obtain ⟨bl, e1, rfl, w3⟩ := DataW.trod_int Tryd.underlying22 hz1
  simp at e0 e1
  subst e0 e1
  obtain ⟨c0, c1, y0, y1, m'', rfl, rfl, rfl, hx0, hx1⟩ := open_agg2 Tryd.underlying46 (by kernel_rfl) cellsPart (hval 2 46 v2 rfl rfl) h2
  obtain ⟨c, e0, rfl, w4⟩ := DataW.trod_int Tryd.underlying22 hx0
  obtain ⟨n, e1, rfl, w5⟩ := DataW.trod_int Tryd.underlying3 hx1
  simp at e0 e1
  subst e0 e1
  clear hA0
  simp only [List.append_nil] at hW'
  refine (law_ring ah al bh bl c n (word_of_wf w0) (word_of_wf w1) (word_of_wf w2) (word_of_wf w3) (word_of_wf w4) W (rtab_of hL)).mono fun e W' ⟨he, hg⟩ => ?_
  subst he
  exact ⟨_, rfl, _, _, _, [], [], [], hW', trodAll_mk1 (shut_bool Tryd.underlying4 _),
    trodAll_mk3 (shut_agg2 (y0 := (.lit (.int .u64 ah), [])) (y1 := (.lit (.int .u64 al), [])) Tryd.underlying24 (by kernel_rfl) Tryd.cells24 ⟨1, by simp [DataW.trod, Tryd.underlying22, w0]⟩ ⟨1, by simp [DataW.trod, Tryd.underlying22, w1]⟩)
      (shut_agg2 (y0 := (.lit (.int .u64 bh), [])) (y1 := (.lit (.int .u64 bl), [])) Tryd.underlying24 (by kernel_rfl) Tryd.cells24 ⟨1, by simp [DataW.trod, Tryd.underlying22, w2]⟩ ⟨1, by simp [DataW.trod, Tryd.underlying22, w3]⟩)
      (shut_agg2 (y0 := (.lit (.int .u64 c), [])) (y1 := (.lit (.int .i64 n), [])) Tryd.underlying46 (by kernel_rfl) cellsPart ⟨1, by simp [DataW.trod, Tryd.underlying22, w4]⟩ ⟨1, by simp [DataW.trod, Tryd.underlying3, w5]⟩), rfl,
    hg.frame _, fun h => by cases h⟩

/-- A world for the witness: the settled one, the rtable holding what its initialiser lays. -/
noncomputable def ringWorld (os : Os) : World :=
  { World.holding Tryd.prog os ⟨#[], #[], []⟩ with heap := (World.holding Tryd.prog os ⟨#[], #[], []⟩).heap.modify 0 fun
      | .cells _ t frozen => .cells ((Lib.deBruijn64tab.map fun z : Nat => Value.int .u8 (z : Int)).toArray) t frozen
      | o => o }
theorem ring_laid (os : Os) : laidMet Tryd.prog Rows.wideRingRow.laid ((ringWorld os).forCall (fun _ _ => 0) ⟨#[], #[.agg #[.int .u64 0, .int .u64 0], .agg #[.int .u64 0, .int .u64 0], .agg #[.int .u64 0, .int .i64 0]], []⟩).memory :=
  laidMet_of_run' 8 (by kernel_rfl) (by kernel_rfl)
theorem ring_reads (os : Os) {H : Type} (enc : TypeId × Value → H) : ∃ places, DataW.whole enc Tryd.prog ((ringWorld os).forCall (fun _ _ => 0) ⟨#[], #[.agg #[.int .u64 0, .int .u64 0], .agg #[.int .u64 0, .int .u64 0], .agg #[.int .u64 0, .int .i64 0]], []⟩).memory Tryd.f6.params.toList Rows.wideRingSpec.vars false #[Value.agg #[.int .u64 0, .int .u64 0], .agg #[.int .u64 0, .int .u64 0], .agg #[.int .u64 0, .int .i64 0]].toList 8 = some ([.agg [.lit (.int .u64 0), .lit (.int .u64 0)], .agg [.lit (.int .u64 0), .lit (.int .u64 0)], .agg [.lit (.int .u64 0), .lit (.int .i64 0)]], [], places) :=
  ⟨[], by kernel_rfl⟩

set_option maxRecDepth 100000 in
theorem ring_lifted (os : Os) (started : os.Started) (H : Type) (enc : TypeId × Value → H) (F : Stop.Interp) :
    ReturnsInHanded {} Tryd.checked os 6 .any ((OpenSpec.ofChange Rows.wideRingSpec).preRow enc Tryd.prog Tryd.f6 Rows.wideRingRow.domain false Rows.wideRingRow.laid) (((OpenSpec.ofChange Rows.wideRingSpec).at F).post enc Tryd.prog Tryd.f6 false true false false) := by
  obtain ⟨places, hx⟩ := ring_reads os enc
  refine returnsInHanded_of_row (C := Tryd.checked) (s := OpenSpec.ofChange Rows.wideRingSpec) Tryd.own started (by kernel_rfl) Tryd.func6
    (witness_row_at (enc := enc) (C := Tryd.checked) false (ringWorld os) #[.agg #[.int .u64 0, .int .u64 0], .agg #[.int .u64 0, .int .u64 0], .agg #[.int .u64 0, .int .i64 0]] rfl (by kernel_rfl) (by kernel_rfl) (by kernel_rfl)
      (OpenSpec.preRow_of_cond 8 hx (by kernel_rfl) (fun k hk => by cases hk) (by kernel_rfl) (ring_laid os))) ?_
  intro W base args ds gs before hval hW _ _ _ hL _ _
  exact ring_contract H enc W base args ds gs before hval hW hL

theorem ring_said : Rows.WideRingSaid :=
  OpenClaim.holds_of_cond 6 Tryd.f6 rfl rfl rfl rfl rfl rfl rfl ⟨rfl, rfl, rfl, rfl, rfl⟩ rfl rfl rfl rfl rfl (by kernel_rfl) Tryd.func6 (by kernel_rfl)
    (of_decide_eq_true (by kernel_rfl)) (by unfold Func.isWrapper; first | (rw [if_pos (by decide +kernel)]; kernel_rfl) | (rw [if_neg (by decide +kernel)]; exact ⟨rfl, rfl⟩))
    (fun os started H enc _ F => by rw [OpenClaim.pre_eq_preRow]; exact ring_lifted os started H enc F)

theorem ring_plain (f : FuncId) (fn : Func) (hf : Tryd.pinned.checked.prog.funcNamed "numeral/numerallaw01.WideRing" = some f) (hfn : Tryd.pinned.checked.prog.funcs[f]? = some fn) :
    true = Tryd.pinned.checked.prog.looks [] ∧ ∀ (j : Nat) t, fn.params[j]? = some t → Tryd.pinned.checked.prog.wantsStandIn t = false := by
  obtain rfl : f = 6 := Option.some.inj ((show Tryd.prog.funcNamed "numeral/numerallaw01.WideRing" = some 6 by kernel_rfl).symm.trans hf) |>.symm
  obtain rfl : fn = Tryd.f6 := (Option.some.inj (Tryd.func6.symm.trans hfn)).symm
  refine ⟨by kernel_rfl, fun j t ht => ?_⟩
  rw [Tryd.params6] at ht
  have m := Array.mem_of_getElem? ht
  simp only [List.mem_toArray, List.mem_cons, List.not_mem_nil, or_false] at m
  rcases m with rfl | rfl | rfl
  · exact (show Tryd.prog.wantsStandIn 24 = false by kernel_rfl)
  · exact (show Tryd.prog.wantsStandIn 24 = false by kernel_rfl)
  · exact (show Tryd.prog.wantsStandIn 46 = false by kernel_rfl)

theorem wideRing_card : Rows.WideRingCardSaid :=
  Claim7.holds_tied_plain_at .later [] _ _ _ _ ring_said (fun _ h => by cases h) (by kernel_rfl) (fun _ h => by cases h) wideRing_row_tie rfl ⟨rfl, rfl⟩ (by kernel_rfl) rfl ring_plain (by kernel_rfl)
#print axioms wideRing_card

end Go.Proofs.YtmbhmiidelcieaaDoor
