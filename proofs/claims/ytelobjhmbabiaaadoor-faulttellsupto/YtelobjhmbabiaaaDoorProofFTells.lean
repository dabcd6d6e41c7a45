/-
  Proved: where the arguments hold together at most 1048576 values and letters, the call of FaultTells (what a row of wraps tells, and which call, text and line it names: the outermost ones: FT1, FT2) returns true, and its arguments read behind the call as they read before; the listed variables lie as the program's text lays them (the card ties them to the pruned copy of the program).
-/
import Derived.Test.YtelobjhmbabiaaaDoorLawFTells
import Derived.Test.YtelobjhmbabiaaaDoorFtL
import Derived.Test.YtelobjhmbabiaaaDoorCards
import Derived.Test.YtelobjhmbabiaaaDoorTie
namespace Go.Proofs.YtelobjhmbabiaaaDoor
open Go.ChangeShapes Go.WideShapes Go.ChangeAt Go.RowKit Go.Joins

/-- How many letters the first links hold. -/
def sumS (cl tx' : Nat → ByteArray) : Nat → Nat
  | 0 => 0
  | k + 1 => sumS cl tx' k + (cl k).size + (tx' k).size
theorem sumS_mono (cl tx' : Nat → ByteArray) {k m : Nat} (h : k ≤ m) : sumS cl tx' k ≤ sumS cl tx' m := by
  induction m with
  | zero => rw [Nat.le_zero.mp h]; exact Nat.le_refl _
  | succ m ih =>
    by_cases e : k = m + 1
    · rw [e]; exact Nat.le_refl _
    · have := ih (by omega)
      show _ ≤ sumS cl tx' m + (cl m).size + (tx' m).size
      omega
theorem sumS_at (cl tx' : Nat → ByteArray) {i m : Nat} (h : i < m) : (cl i).size + (tx' i).size ≤ sumS cl tx' m := by
  have a := sumS_mono cl tx' (show i + 1 ≤ m from h)
  have b : sumS cl tx' (i + 1) = sumS cl tx' i + (cl i).size + (tx' i).size := rfl
  omega
theorem bulk_append {H : Type} (l r : List (DataW H)) : Rows.uptoBulkAll (l ++ r) = Rows.uptoBulkAll l + Rows.uptoBulkAll r := by
  induction l with
  | nil => simp [Rows.uptoBulkAll]
  | cons x l ih => simp only [List.cons_append, Rows.uptoBulkAll, ih]; omega
theorem bulk_lD {H : Type} (p : Bool) (s t : ByteArray) (l : Int) : s.size + t.size ≤ Rows.uptoBulk (lD (H := H) p s t l) := by
  unfold lD
  simp only [Rows.uptoBulk, Rows.uptoBulkAll, len_data]
  omega
theorem bulk_row {H : Type} (p : Nat → Bool) (cl tx' : Nat → ByteArray) (ln : Nat → Int) (m : Nat) : sumS cl tx' m ≤ Rows.uptoBulkAll ((List.range m).map fun i => lD (H := H) (p i) (cl i) (tx' i) (ln i)) := by
  induction m with
  | zero => exact Nat.zero_le _
  | succ m ih =>
    rw [List.range_succ, List.map_append, bulk_append]
    have := bulk_lD (H := H) (p m) (cl m) (tx' m) (ln m)
    show sumS cl tx' m + (cl m).size + (tx' m).size ≤ _ + (Rows.uptoBulk (lD (H := H) (p m) (cl m) (tx' m) (ln m)) + 0)
    omega
theorem qB_sz (s : ByteArray) : (qB s).size ≤ 4 * s.size + 2 := by
  have b := qIn_length_le s.data.toList
  rw [len_data] at b
  show (qL s.data.toList).toArray.size ≤ _
  rw [List.size_toArray]
  unfold qL
  simp
  omega
theorem tx_size {w : World} {ao : Option Addr} {m c b o : Nat} {p : Nat → Bool} {cl tx' : Nat → ByteArray} {ln : Nat → Int} (S : SlL w ao m c b o p cl tx' ln) {n : Int} (h0 : -9223372036854775808 ≤ n) (h1 : n ≤ 9223372036854775807) : ∀ k, k ≤ m → (tx (rowL p cl tx' ln k) n).size ≤ 4 * sumS cl tx' k + k * 1100 + 1100
  | 0, _ => by
    show (erB ++ itB n).size ≤ _
    have := itB_size h0 h1
    rw [ByteArray.size_append, show erB.size = 6 from rfl]
    omega
  | k + 1, hk => by
    have ih := tx_size S h0 h1 k (by omega)
    have e : sumS cl tx' (k + 1) = sumS cl tx' k + (cl k).size + (tx' k).size := rfl
    cases q : p k with
    | true =>
      rw [row_place q]
      show (lnB ++ itB (ln k) ++ clB ++ tx (rowL p cl tx' ln k) n).size ≤ _
      have lo := S.lo k (by omega)
      have := itB_size lo.1 lo.2
      simp only [ByteArray.size_append, show lnB.size = 5 from rfl, show clB.size = 2 from rfl]
      omega
    | false =>
      rw [row_fault q]
      show (cl k ++ spB ++ qB (tx' k) ++ clB ++ tx (rowL p cl tx' ln k) n).size ≤ _
      have := qB_sz (tx' k)
      simp only [ByteArray.size_append, show spB.size = 1 from rfl, show clB.size = 2 from rfl]
      omega
/-- What the bound gives. -/
theorem tells_short {H : Type} {n : Int} {d : DataW H} {m : Nat} {p : Nat → Bool} {cl tx' : Nat → ByteArray} {ln : Nat → Int} (hd : (d = .nil ∧ m = 0) ∨ ∃ sp, d = .slice ((List.range m).map fun i => lD (p i) (cl i) (tx' i) (ln i)) sp)
    (hk : Rows.uptoSmall H [.lit (.int .i64 n), d] = true) : sumS cl tx' m ≤ 1048576 := by
  have h : Rows.uptoBulkAll [DataW.lit (H := H) (.int .i64 n), d] ≤ 1048576 := of_decide_eq_true hk
  rcases hd with ⟨_, rfl⟩ | ⟨sp, rfl⟩
  · exact Nat.zero_le _
  · have a := bulk_row (H := H) p cl tx' ln m
    simp only [Rows.uptoBulkAll, Rows.uptoBulk] at h
    omega

set_option maxRecDepth 100000 in
theorem ftells_contract (H : Type) (enc : TypeId × Value → H) (W : World) (base : Nat) (args : Array Value) (ds gs : List (DataW H)) (before : List MemPlace)
    (hval : ∀ (j : Nat) t v, Tryd.f5.params[j]? = some t → args[j]? = some v → Value.okWide Tryd.prog W .any base t v)
    (hW : DataW.Whole enc Tryd.prog Tryd.f5.params.toList Rows.faultTellsSpec.vars false W args.toList ds gs before) (hk : Rows.uptoSmall H (ds ++ gs) = true) (hL : laidMetH Tryd.prog ftLaid W) :
    Calls Tryd.prog 5 args W fun e W' => ∃ v, e = .returned v ∧ Rows.faultTellsSpec.post enc Tryd.prog Tryd.f5 false true false false W args v W' := by
  have hW' := hW
  obtain ⟨p, q, hA0, hV, rfl, hfz, hnd⟩ := hW
  have hA : DataW.TrodAll enc Tryd.prog W 0 (fun _ => true) true Tryd.f5.params.toList args.toList ds p := hA0
  rw [Tryd.params5] at hA hval
  obtain ⟨v0, v1, d0, d1, p0, p1, rfl, rfl, rfl, h0, h1⟩ := trodAll_two hA
  obtain ⟨rfl, rfl⟩ := trodVars_none hV
  obtain ⟨n, rfl, rfl, rfl, w0⟩ := open_int Tryd.underlying3 (hval 0 3 v0 rfl rfl) h0
  obtain ⟨ao, m, c, b, o, pp, cl, tx', ln, rfl, S0, hd⟩ := sll_open (hval 1 40 v1 rfl rfl) h1
  clear hA0
  simp only [List.append_nil] at hW' hk
  have sz := tells_short hd hk
  have each : ∀ i, i < m → (cl i).size + (tx' i).size ≤ 1048576 := fun i hi => Nat.le_trans (sumS_at cl tx' hi) sz
  have S := S0 (fun i hi => by have := each i hi; exact ⟨by omega, by omega⟩)
  have rn := rng_of_wf w0
  clear S0
  have hl1 : ∀ x ∈ p1, x.block < W.heap.size := fun x hx => hW'.lt x (by simpa using hx)
  refine (tells_law S n rn.1 rn.2 (fun k hk => ?_) (fun k hk => by have := each k hk; omega) (errD_of hL) (pow_of hL)).mono fun e W' ⟨he, hg⟩ => ?_
  · have a := tx_size S rn.1 rn.2 k (by omega)
    have b := sumS_mono cl tx' (show k ≤ m by omega)
    omega
  subst he
  have t1 := Below.trod laidOutF (by kernel_rfl) (of_decide_eq_true (by kernel_rfl)) h1 hg hl1
  exact ⟨_, rfl, _, _, _, [], _, [], hW', trodAll_mk1 (shut_bool Tryd.underlying4 _), trodAll_mk2 (shut_int Tryd.underlying3 w0) t1, rfl,
    hg.frame _, fun h => by cases h⟩

theorem ftells_laid (os : Os) : laidMetH Tryd.prog ftLaid ((ftWorld os).forCall (fun _ _ => 0) ⟨#[], #[.int .i64 0, .slice none 0 0], []⟩).memory :=
  laidMetH_of_parts (by rw [ftLaid_n]; exact laidMet_of_run' 8 (by kernel_rfl) (by kernel_rfl)) (by rw [ftLaid_h]; kernel_rfl)
theorem ftells_reads (os : Os) {H : Type} (enc : TypeId × Value → H) : ∃ places, DataW.whole enc Tryd.prog ((ftWorld os).forCall (fun _ _ => 0) ⟨#[], #[.int .i64 0, .slice none 0 0], []⟩).memory Tryd.f5.params.toList Rows.faultTellsSpec.vars false (#[.int .i64 0, .slice none 0 0] : Array Value).toList 8 = some ([.lit (.int .i64 0), .nil], [], places) :=
  ⟨[], by kernel_rfl⟩

set_option maxRecDepth 100000 in
theorem ftells_lifted (os : Os) (started : os.Started) (H : Type) (enc : TypeId × Value → H) (F : Stop.Interp) :
    ReturnsInHanded {} Tryd.checked os 5 .any ((Rows.OpenSpec.upto Rows.faultTellsSpec).preRow enc Tryd.prog Tryd.f5 Rows.faultTellsUptoRow.domain false ftLaid) (((Rows.OpenSpec.upto Rows.faultTellsSpec).at F).post enc Tryd.prog Tryd.f5 false true false false) := by
  obtain ⟨places, hx⟩ := ftells_reads os enc
  refine returnsInHanded_of_row (C := Tryd.checked) (s := Rows.OpenSpec.upto Rows.faultTellsSpec) ownF started (by kernel_rfl) Tryd.func5
    (witness_row_at (enc := enc) (C := Tryd.checked) false (ftWorld os) #[.int .i64 0, .slice none 0 0] rfl (by kernel_rfl) (by kernel_rfl) (by kernel_rfl)
      (OpenSpec.preRow_of_cond 8 hx (by kernel_rfl) (fun k hk => by cases hk; kernel_rfl) (by kernel_rfl) (ftells_laid os))) ?_
  intro W base args ds gs before hval hW _ hcond _ hL _ _
  exact ftells_contract H enc W base args ds gs before hval hW (hcond _ rfl) hL

theorem ftells_said : Rows.FaultTellsUptoSaid :=
  OpenClaim.holds_of_cond 5 Tryd.f5 rfl rfl rfl rfl rfl rfl rfl ⟨rfl, rfl, rfl, rfl, rfl⟩ rfl rfl rfl rfl rfl (by kernel_rfl) Tryd.func5 (by kernel_rfl)
    (of_decide_eq_true (by kernel_rfl)) (by unfold Func.isWrapper; first | (rw [if_pos (by decide +kernel)]; kernel_rfl) | (rw [if_neg (by decide +kernel)]; exact ⟨rfl, rfl⟩))
    (fun os started H enc _ F => by rw [OpenClaim.pre_eq_preRow]; exact ftells_lifted os started H enc F)

theorem ftells_plain (f : FuncId) (fn : Func) (hf : Tryd.pinned.checked.prog.funcNamed "numeral/numerallaw05.FaultTells" = some f) (hfn : Tryd.pinned.checked.prog.funcs[f]? = some fn) :
    true = Tryd.pinned.checked.prog.looks [] ∧ ∀ (j : Nat) t, fn.params[j]? = some t → Tryd.pinned.checked.prog.wantsStandIn t = false := by
  obtain rfl : f = 5 := Option.some.inj ((show Tryd.prog.funcNamed "numeral/numerallaw05.FaultTells" = some 5 by kernel_rfl).symm.trans hf) |>.symm
  obtain rfl : fn = Tryd.f5 := (Option.some.inj (Tryd.func5.symm.trans hfn)).symm
  refine ⟨by kernel_rfl, fun j t ht => ?_⟩
  rw [Tryd.params5] at ht
  have : t = 3 ∨ t = 40 := by simpa using Array.mem_of_getElem? ht
  rcases this with rfl | rfl
  · exact (show Tryd.prog.wantsStandIn 3 = false by kernel_rfl)
  · exact (show Tryd.prog.wantsStandIn 40 = false by kernel_rfl)

theorem faultTells_card : Rows.FaultTellsUptoCardSaid :=
  Claim7.holds_tied_plain_at .later [] _ _ _ _ ftells_said (fun _ h => by cases h) (by kernel_rfl) (fun _ h => by cases h) faultTellsUpto_row_tie rfl ⟨rfl, rfl⟩ (by kernel_rfl) rfl ftells_plain (by kernel_rfl)
#print axioms faultTells_card

end Go.Proofs.YtelobjhmbabiaaaDoor
