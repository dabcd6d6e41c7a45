/-
  Proved: the call of ScanGrammar (what is put together by the grammar's rules is in it, what breaks one is not; underscores change nothing: SN1, SN4) returns true, and its arguments read behind the call as they read before; the listed variables lie as the program's text lays them (the card ties them to the pruned copy of the program).
-/
import Derived.Test.YtjgdbphhhplifaaDoorLawSGrammar
import Derived.Test.YtjgdbphhhplifaaDoorScW
import Derived.Carry
import Derived.ChangeSlices
import Derived.Test.YtjgdbphhhplifaaDoorCards
import Derived.Test.YtjgdbphhhplifaaDoorTie
namespace Go.Proofs.YtjgdbphhhplifaaDoor
open Go.ChangeShapes Go.WideShapes Go.ChangeAt Go.RowKit Go.Joins

theorem laidOutS : laidOutB Tryd.prog = true := by kernel_rfl
theorem cellsGr : Tryd.prog.cellsOf 44 = 10 := by kernel_rfl
theorem cellsI3 : Tryd.prog.cellsOf 3 = 1 := by kernel_rfl
theorem cellsB4 : Tryd.prog.cellsOf 4 = 1 := by kernel_rfl
theorem cellsS9 : Tryd.prog.cellsOf 9 = 1 := by kernel_rfl
theorem cellsSl : Tryd.prog.cellsOf 42 = 1 := by kernel_rfl
theorem bytesI3 : Tryd.prog.bytesOf 3 = 8 := by kernel_rfl
theorem ten_of {α : Type} {l : List α} (h : l.length = 10) : ∃ a b c d e f g h i j, l = [a, b, c, d, e, f, g, h, i, j] := by
  match l, h with
  | [a, b, c, d, e, f, g, h, i, j], _ => exact ⟨a, b, c, d, e, f, g, h, i, j, rfl⟩
set_option maxRecDepth 100000 in
theorem sli_cells {H : Type} {enc : TypeId × Value → H} {W : World} {fuel : Nat} {v : Value} {x : DataW H × List MemPlace}
    (hf : DataW.trod enc Tryd.prog W 0 (fun _ => true) true fuel 42 [v] = some x) :
    ∃ ao n c b o f, v = .slice ao n c ∧ SlI W ao n b o f ∧ ((x.1.weights Tryd.prog 42).all (· ≤ reachBytes) = true → n ≤ 140737488355328) := by
  rcases open_ints Tryd.underlying42 Tryd.underlying3 cellsI3 hf with ⟨hcs, hx⟩ | ⟨a, n, c, zs, hcs, _, hl, hm, hz, hx, hcell, hwz⟩
  · simp at hcs
    subst hcs
    exact ⟨_, _, _, 0, 0, fun _ => 0, rfl, ⟨fun h => by omega, fun h => by omega, fun i hi => by omega⟩, fun _ => by omega⟩
  · simp at hcs
    subst hcs
    simp only [if_true] at hz
    have sp : 0 < n → a.spot = none := by
      intro h
      have q := hcell 0 (by omega)
      cases s : a.spot with
      | none => rfl
      | some k =>
        simp only [Addr.add, if_pos] at q
        unfold World.cell? at q
        rw [s] at q
        split at q
        · simp at q
        · cases q
    have ad : 0 < n → a = ⟨a.block, a.off, none⟩ := fun h => by
      have := sp h
      cases a
      simp only at this
      subst this
      rfl
    have cl : ∀ i, i < n → W.cell? ⟨a.block, a.off + i, none⟩ = some (.int .i64 (zs.getD i 0)) := by
      intro i hi
      have q := hcell i (by omega)
      unfold Addr.add at q
      split at q
      · rename_i hi0
        subst hi0
        rw [ad (by omega)] at q
        exact q
      · exact q
    refine ⟨_, _, _, a.block, a.off, fun i => zs.getD i 0, rfl, ⟨fun h => by rw [← ad h], fun h => World.block_lt_of_cell? W ⟨a.block, a.off + 0, none⟩ (cl 0 h), fun i hi => cl i hi⟩, fun hw => ?_⟩
    have hd : x.1 = .slice (lits .i64 (zs.take n)) (lits .i64 (zs.drop n)) := congrArg Prod.fst hx
    rw [hd] at hw
    unfold DataW.weights at hw
    rw [Tryd.underlying42] at hw
    simp only [List.all_cons, Bool.and_eq_true, decide_eq_true_eq, bytesI3] at hw
    have q := hw.1
    have l1 : (lits (H := H) .i64 (zs.take n)).length + (lits (H := H) .i64 (zs.drop n)).length = c := by
      simp [lits, hz]
      omega
    rw [l1] at q
    unfold reachBytes at q
    omega
set_option maxRecDepth 100000 in
theorem gr_open {H : Type} {enc : TypeId × Value → H} {W : World} {b0 : Nat} {r : Reach} {v : Value} {d : DataW H} {ps : List MemPlace}
    (hv : Value.okWide Tryd.prog W r b0 44 v) (h : DataW.Trod enc Tryd.prog W 0 (fun _ => true) true 44 v d ps) :
    ∃ (S X P ES E : ByteArray) (pt hx he gr : Bool) (ao : Option Addr) (n c b o : Nat) (f : Nat → Int) (y : DataW H),
      v = .agg #[.string S, .string X, .string P, .string ES, .string E, .bool pt, .bool hx, .bool he, .bool gr, .slice ao n c] ∧
      d = .agg [.lit (.string S.data.toList), .lit (.string X.data.toList), .lit (.string P.data.toList), .lit (.string ES.data.toList), .lit (.string E.data.toList), .lit (.bool pt), .lit (.bool hx), .lit (.bool he), .lit (.bool gr), y] ∧
      SlI W ao n b o f ∧ ((y.weights Tryd.prog 42).all (· ≤ reachBytes) = true → n ≤ 140737488355328) := by
  obtain ⟨cs, rfl, hsz⟩ := okWide_struct Tryd.underlying44 hv
  obtain ⟨fuel, hf⟩ := h
  obtain ⟨xs, n0, _, hx, _, hl, hr⟩ := DataW.trod_struct Tryd.underlying44 hf
  obtain ⟨y0, y1, y2, y3, y4, y5, y6, y7, y8, y9, rfl⟩ := ten_of hl
  obtain ⟨c0, c1, c2, c3, c4, c5, c6, c7, c8, c9, hc⟩ := ten_of (l := cs.toList) (by rw [Array.length_toList]; exact hsz.trans cellsGr)
  obtain rfl : cs = #[c0, c1, c2, c3, c4, c5, c6, c7, c8, c9] := Array.toList_inj.1 hc
  have r0 := hr 0 _ rfl
  have r1 := hr 1 _ rfl
  have r2 := hr 2 _ rfl
  have r3 := hr 3 _ rfl
  have r4 := hr 4 _ rfl
  have r5 := hr 5 _ rfl
  have r6 := hr 6 _ rfl
  have r7 := hr 7 _ rfl
  have r8 := hr 8 _ rfl
  have r9 := hr 9 _ rfl
  simp [Value.cells, cellsB4, cellsS9, cellsSl] at r0 r1 r2 r3 r4 r5 r6 r7 r8 r9
  obtain ⟨s0, e0, rfl, _⟩ := DataW.trod_string Tryd.underlying9 r0
  obtain ⟨s1, e1, rfl, _⟩ := DataW.trod_string Tryd.underlying9 r1
  obtain ⟨s2, e2, rfl, _⟩ := DataW.trod_string Tryd.underlying9 r2
  obtain ⟨s3, e3, rfl, _⟩ := DataW.trod_string Tryd.underlying9 r3
  obtain ⟨s4, e4, rfl, _⟩ := DataW.trod_string Tryd.underlying9 r4
  obtain ⟨b5, e5, rfl⟩ := DataW.trod_bool Tryd.underlying4 r5
  obtain ⟨b6, e6, rfl⟩ := DataW.trod_bool Tryd.underlying4 r6
  obtain ⟨b7, e7, rfl⟩ := DataW.trod_bool Tryd.underlying4 r7
  obtain ⟨b8, e8, rfl⟩ := DataW.trod_bool Tryd.underlying4 r8
  obtain ⟨ao, n, c, b, o, f, rfl, SL, hw⟩ := sli_cells r9
  simp at e0 e1 e2 e3 e4 e5 e6 e7 e8
  subst e0 e1 e2 e3 e4 e5 e6 e7 e8
  simp at hx
  exact ⟨s0, s1, s2, s3, s4, b5, b6, b7, b8, ao, n, c, b, o, f, y9.1, rfl, hx.1, SL, hw⟩

set_option maxRecDepth 100000 in
theorem sgrammar_contract (H : Type) (enc : TypeId × Value → H) (W : World) (base : Nat) (args : Array Value) (ds gs : List (DataW H)) (before : List MemPlace)
    (hval : ∀ (j : Nat) t v, Tryd.f5.params[j]? = some t → args[j]? = some v → Value.okWide Tryd.prog W .any base t v)
    (hW : DataW.Whole enc Tryd.prog Tryd.f5.params.toList Rows.scanGrammarSpec.vars false W args.toList ds gs before) (hsz : (DataW.weightsEach Tryd.prog (Tryd.f5.params.toList ++ (OpenSpec.ofChange Rows.scanGrammarSpec).bare.plain.varTypes Tryd.prog) (ds ++ gs)).all (· ≤ reachBytes) = true) :
    Calls Tryd.prog 5 args W fun e W' => ∃ v, e = .returned v ∧ Rows.scanGrammarSpec.post enc Tryd.prog Tryd.f5 false true false false W args v W' := by
  have hW' := hW
  obtain ⟨p, q, hA0, hV, rfl, hfz, hnd⟩ := hW
  have hA : DataW.TrodAll enc Tryd.prog W 0 (fun _ => true) true Tryd.f5.params.toList args.toList ds p := hA0
  rw [Tryd.params5] at hA hval hsz
  obtain ⟨v0, d0, rfl, rfl, h0⟩ := trodAll_one hA
  obtain ⟨rfl, rfl⟩ := trodVars_none hV
  obtain ⟨S, X, P, ES, E, pt, hx, he', gr, ao, n, c, b, o, f, y, rfl, rfl, SL, hn⟩ := gr_open (hval 0 44 v0 rfl rfl) h0
  clear hA0
  simp only [List.append_nil] at hW'
  simp only [List.cons_append, List.nil_append, List.append_nil, DataW.weightsEach, DataW.weights, Tryd.underlying44, List.map_cons, List.map_nil, List.all_cons, Bool.and_eq_true, decide_eq_true_eq] at hsz
  unfold reachBytes at hsz
  rw [len_data, len_data, len_data, len_data, len_data] at hsz
  have hl0 : ∀ x ∈ p, x.block < W.heap.size := fun x hx => hW'.lt x hx
  refine (gram_law S X P ES E pt hx he' gr (hn (by have q := hsz.2.2.2.2.2; rw [List.all_append, Bool.and_eq_true] at q; unfold reachBytes; exact q.1)) (by omega) (by omega) (by omega) W SL).mono fun e W' ⟨he, hg⟩ => ?_
  have t0 := Below.trod laidOutS (by kernel_rfl) (of_decide_eq_true (by kernel_rfl)) h0 hg hl0
  subst he
  exact ⟨_, rfl, _, _, _, [], p, [], hW', trodAll_mk1 (shut_bool Tryd.underlying4 _), trodAll_mk1 t0, rfl,
    hg.frame _, fun h => by cases h⟩

theorem sgrammar_laid (os : Os) : laidMetH Tryd.prog scLaid ((scWorld os).forCall (fun _ _ => 0) ⟨#[], #[.agg #[.string ⟨#[]⟩, .string ⟨#[]⟩, .string ⟨#[]⟩, .string ⟨#[]⟩, .string ⟨#[]⟩, .bool false, .bool false, .bool false, .bool false, .slice none 0 0]], []⟩).memory :=
  laid_S (laidMet_of_run' 8 (by kernel_rfl) (by kernel_rfl))
theorem sgrammar_reads (os : Os) {H : Type} (enc : TypeId × Value → H) : ∃ places, DataW.whole enc Tryd.prog ((scWorld os).forCall (fun _ _ => 0) ⟨#[], #[.agg #[.string ⟨#[]⟩, .string ⟨#[]⟩, .string ⟨#[]⟩, .string ⟨#[]⟩, .string ⟨#[]⟩, .bool false, .bool false, .bool false, .bool false, .slice none 0 0]], []⟩).memory Tryd.f5.params.toList Rows.scanGrammarSpec.vars false (#[.agg #[.string ⟨#[]⟩, .string ⟨#[]⟩, .string ⟨#[]⟩, .string ⟨#[]⟩, .string ⟨#[]⟩, .bool false, .bool false, .bool false, .bool false, .slice none 0 0]] : Array Value).toList 8 = some ([.agg [.lit (.string []), .lit (.string []), .lit (.string []), .lit (.string []), .lit (.string []), .lit (.bool false), .lit (.bool false), .lit (.bool false), .lit (.bool false), .nil]], [], places) :=
  ⟨[], by kernel_rfl⟩

set_option maxRecDepth 100000 in
theorem sgrammar_lifted (os : Os) (started : os.Started) (H : Type) (enc : TypeId × Value → H) (F : Stop.Interp) :
    ReturnsInHanded {} Tryd.checked os 5 .any ((OpenSpec.ofChange Rows.scanGrammarSpec).preRow enc Tryd.prog Tryd.f5 Rows.scanGrammarRow.domain false scLaid) (((OpenSpec.ofChange Rows.scanGrammarSpec).at F).post enc Tryd.prog Tryd.f5 false true false false) := by
  obtain ⟨places, hx⟩ := sgrammar_reads os enc
  refine returnsInHanded_of_row (C := Tryd.checked) (s := OpenSpec.ofChange Rows.scanGrammarSpec) ownS started (by kernel_rfl) Tryd.func5
    (witness_row_at (enc := enc) (C := Tryd.checked) false (scWorld os) #[.agg #[.string ⟨#[]⟩, .string ⟨#[]⟩, .string ⟨#[]⟩, .string ⟨#[]⟩, .string ⟨#[]⟩, .bool false, .bool false, .bool false, .bool false, .slice none 0 0]] rfl (by kernel_rfl) (by kernel_rfl) (by kernel_rfl)
      (OpenSpec.preRow_of_cond 8 hx (by kernel_rfl) (fun k hk => by cases hk) (by kernel_rfl) (sgrammar_laid os))) ?_
  intro W base args ds gs before hval hW _ _ hsz _ _ _
  exact sgrammar_contract H enc W base args ds gs before hval hW hsz

theorem sgrammar_said : Rows.ScanGrammarSaid :=
  OpenClaim.holds_of_cond 5 Tryd.f5 rfl rfl rfl rfl rfl rfl rfl ⟨rfl, rfl, rfl, rfl, rfl⟩ rfl rfl rfl rfl rfl (by kernel_rfl) Tryd.func5 (by kernel_rfl)
    (of_decide_eq_true (by kernel_rfl)) (by unfold Func.isWrapper; first | (rw [if_pos (by decide +kernel)]; kernel_rfl) | (rw [if_neg (by decide +kernel)]; exact ⟨rfl, rfl⟩))
    (fun os started H enc _ F => by rw [OpenClaim.pre_eq_preRow]; exact sgrammar_lifted os started H enc F)

theorem sgrammar_plain (f : FuncId) (fn : Func) (hf : Tryd.pinned.checked.prog.funcNamed "numeral/numerallaw10.ScanGrammar" = some f) (hfn : Tryd.pinned.checked.prog.funcs[f]? = some fn) :
    true = Tryd.pinned.checked.prog.looks [] ∧ ∀ (j : Nat) t, fn.params[j]? = some t → Tryd.pinned.checked.prog.wantsStandIn t = false := by
  obtain rfl : f = 5 := Option.some.inj ((show Tryd.prog.funcNamed "numeral/numerallaw10.ScanGrammar" = some 5 by kernel_rfl).symm.trans hf) |>.symm
  obtain rfl : fn = Tryd.f5 := (Option.some.inj (Tryd.func5.symm.trans hfn)).symm
  refine ⟨by kernel_rfl, fun j t ht => ?_⟩
  rw [Tryd.params5] at ht
  obtain rfl : t = 44 := by simpa using Array.mem_of_getElem? ht
  exact (show Tryd.prog.wantsStandIn 44 = false by kernel_rfl)

theorem scanGrammar_card : Rows.ScanGrammarCardSaid :=
  Claim7.holds_tied_plain_at .later [] _ _ _ _ sgrammar_said (fun _ h => by cases h) (by kernel_rfl) (fun _ h => by cases h) scanGrammar_row_tie rfl ⟨rfl, rfl⟩ (by kernel_rfl) rfl sgrammar_plain (by kernel_rfl)
#print axioms scanGrammar_card

end Go.Proofs.YtjgdbphhhplifaaDoor
