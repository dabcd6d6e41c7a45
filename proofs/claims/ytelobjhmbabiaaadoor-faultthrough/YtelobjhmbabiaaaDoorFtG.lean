/-
  errors.as through rows of links that end in a number, at a target of each of the three kinds: the number, the first fault, the first place.
-/
import Derived.Test.YtelobjhmbabiaaaDoorFtE
namespace Go.Proofs.YtelobjhmbabiaaaDoor
open Go.RowKit Go.Extern.Stop Go.Stop Go.Extern

/-- The first fault of a row of links. -/
def ffst : List Lk → Option (ByteArray × ByteArray)
  | [] => none
  | .inl (c, t) :: _ => some (c, t)
  | .inr _ :: ls => ffst ls
/-- The first place. -/
def pfst : List Lk → Option Int
  | [] => none
  | .inl (_, _) :: ls => pfst ls
  | .inr l :: _ => some l
/-- What is answered where the first fault is asked for. -/
def ResF (ls : List Lk) (w0 w w' : World) (t : Addr) (e : Ending) : Prop := (ffst ls = none ∧ e = .returned (.bool false) ∧ Below w.heap.size w w') ∨ (∃ c x b y, ffst ls = some (c, x) ∧ e = .returned (.bool true) ∧ w'.cell? t = some (.pointer (some ⟨b, 0, none⟩)) ∧ w0.heap[b]? = some (.cells #[.string c, .string x, y] 80 (0, 0)) ∧ Below t.block w w')
/-- .. the first place. -/
def ResP (ls : List Lk) (w0 w w' : World) (t : Addr) (e : Ending) : Prop := (pfst ls = none ∧ e = .returned (.bool false) ∧ Below w.heap.size w w') ∨ (∃ l b y, pfst ls = some l ∧ e = .returned (.bool true) ∧ w'.cell? t = some (.pointer (some ⟨b, 0, none⟩)) ∧ w0.heap[b]? = some (.cells #[.int .i64 l, y] 83 (0, 0)) ∧ Below t.block w w')
theorem cell_two {w : World} {t : Addr} {u : Value} (h : w.cell? t = some u) (o p : Obj) : ((w.alloc o).alloc p).cell? t = some u := by
  have hl : t.block < w.heap.size := by
    rcases Nat.lt_or_ge t.block w.heap.size with h' | h'
    · exact h'
    · simp [World.cell?, Array.getElem?_eq_none h'] at h
  rw [World.cell?_alloc_lt _ _ t (by rw [World.size_alloc]; omega), World.cell?_alloc_lt _ _ t hl]; exact h
theorem cell_one {w : World} {t : Addr} {u : Value} (h : w.cell? t = some u) (o : Obj) : (w.alloc o).cell? t = some u := by
  have hl : t.block < w.heap.size := by
    rcases Nat.lt_or_ge t.block w.heap.size with h' | h'
    · exact h'
    · simp [World.cell?, Array.getElem?_eq_none h'] at h
  rw [World.cell?_alloc_lt _ _ t hl]; exact h
theorem blk_lt {w : World} {t : Addr} {u : Value} (h : w.cell? t = some u) : t.block < w.heap.size := by
  rcases Nat.lt_or_ge t.block w.heap.size with h' | h'
  · exact h'
  · simp [World.cell?, Array.getElem?_eq_none h'] at h
theorem froz_two {w : World} {t : Addr} {u : Value} (h : w.cell? t = some u) (hf : w.frozen? t = false) (o p : Obj) : ((w.alloc o).alloc p).frozen? t = false := by
  have hl := blk_lt h
  rw [World.frozen?_alloc_old _ _ t (by rw [World.size_alloc]; omega), World.frozen?_alloc_old _ _ t (Nat.ne_of_lt hl)]; exact hf
theorem bel_hit {w : World} {t : Addr} {u : Value} (h : w.cell? t = some u) (o p : Obj) (x : Value) : Below t.block w (((w.alloc o).alloc p).setCell t x) := by
  have hl := blk_lt h
  exact Below.setCell (((Below.refl _ _).alloc (Nat.le_of_lt hl) _).alloc (by rw [World.size_alloc]; omega) _) (Nat.le_refl _) _
theorem cell_hit {w : World} {t : Addr} {u : Value} (h : w.cell? t = some u) (o p : Obj) (x : Value) : (((w.alloc o).alloc p).setCell t x).cell? t = some x :=
  World.cell?_setCell_same (u := u) _ _ _ (cell_two h o p)

set_option maxRecDepth 100000 in
set_option maxHeartbeats 8000000 in
theorem asN_as {ls : List Lk} {n : Int} {v : Value} {w0 w : World} (h : Ch w0 ls n v) (hw : Below w0.heap.size w0 w) {t a : Addr} {old : Value} (ha : w.cell? a = some (.pointer (some t))) (ht : w.cell? t = some old) (hf : w.frozen? t = false) :
    Calls Tryd.prog 58 #[v, .iface 71 (.pointer (some t)), .agg #[.pointer (some ⟨5, 71, none⟩), .pointer (some a), .int .u64 150], .iface 104 (.agg #[.pointer (some ⟨5, 32, none⟩)])] w fun e w' => e = .returned (.bool true) ∧ w'.cell? t = some (.int .i64 n) ∧ Below t.block w w' := by
  have h6 := @run_callFunc_extern Tryd.prog 55 _ (fun args => ReflectliteValue.unpack (args.getD 0 (.tuple #[]))) Tryd.func55 (by kernel_rfl) (by kernel_rfl) (by kernel_rfl) (by kernel_rfl)
  have h10 := @run_callFunc_extern Tryd.prog 48 _ ReflectliteType.typeOf Tryd.func48 (by kernel_rfl) (by kernel_rfl) (by kernel_rfl) (by kernel_rfl)
  have h35 := @run_callFunc_extern Tryd.prog 105 _ (ReflectliteType.relation "AssignableTo" ReflectliteType.assignableTo) Tryd.func105 (by kernel_rfl) (by kernel_rfl) (by kernel_rfl) (by kernel_rfl)
  have h11 := @run_callFunc_extern Tryd.prog 68 _ (ReflectliteValue.method (ReflectliteValue.valueError "reflectlite.Value.Elem" 0) ReflectliteValue.elem) Tryd.func68 (by kernel_rfl) (by kernel_rfl) (by kernel_rfl) (by kernel_rfl)
  have h12 := @run_callFunc_extern Tryd.prog 69 _ ReflectliteValue.set Tryd.func69 (by kernel_rfl) (by kernel_rfl) (by kernel_rfl) (by kernel_rfl)
  have mA := as_m_assign
  obtain ⟨W1, hW1⟩ : ∃ W, W = w.alloc (.cells #[.pointer (some ⟨5, 71, none⟩), .pointer (some a), .int .u64 150] 93) := ⟨_, rfl⟩
  have el := asN_elem a t W1 (by rw [hW1]; exact cell_one ha _)
  have r0 : W1.cell? ⟨w.heap.size, 0, none⟩ = some (.pointer (some ⟨5, 71, none⟩)) := by rw [hW1]; simp
  have r1 : W1.cell? ⟨w.heap.size, 1, none⟩ = some (.pointer (some a)) := by rw [hW1]; simp
  have r2 : W1.cell? ⟨w.heap.size, 2, none⟩ = some (.int .u64 150) := by rw [hW1]; simp
  have HC2 : Hid ((∀ o, (W1.alloc o).cell? t = some old) ∧ (∀ o, (W1.alloc o).frozen? t = false)) := by rw [hW1]; exact ⟨fun o => cell_two ht _ o, fun o => froz_two ht hf _ o⟩
  have HK : Hid (∀ {o : Obj} (u : Value), ((W1.alloc o).setCell t u).cell? t = some u) := by rw [hW1]; exact fun u => cell_hit ht _ _ u
  have HBE : Hid (∀ {o : Obj} (u : Value), Below t.block w ((W1.alloc o).setCell t u)) := by rw [hW1]; exact fun u => bel_hit ht _ _ u
  have HBL : Hid (Below w.heap.size w W1) := by rw [hW1]; exact (Below.refl _ _).alloc (Nat.le_refl _) _
  have HHp : Hid (∀ b, b < w0.heap.size → W1.heap[b]? = w0.heap[b]?) := fun b hb => (HBL.out.block b (Nat.lt_of_lt_of_le hb hw.size)).trans (hw.block b hb)
  go_enter Tryd.func58, Tryd.ntmps58
  go_wp2
  rw [← hW1]
  clear hW1
  go_loopg [0] ls.length (fun gk v wr => wr = W1 ∧ ∃ ls' : List Lk, ls'.length = gk ∧ Ch w0 ls' n v)
  case atStart => exact ⟨rfl, ls, rfl, h⟩
  case round =>
    clear h
    obtain ⟨hwr, ls', rfl, h⟩ := hrel
    have hwr' := hwr.symm
    subst hwr'
    cases ls' with
    | nil =>
      have h' : _ = _ := h
      subst h'
      have tO := tyOfN
      have aT := asgNN
      have vV := asN_value (.int .i64 n) W1 _ rfl
      have sT := asN_set t ⟨W1.heap.size, 0, none⟩ (.int .i64 n) old _ rfl (W1.alloc (.cells #[.int .i64 n] 32)) (by simp) (HC2.out.1 _) (HC2.out.2 _)
      go_wp2
      go_ret
      exact ⟨rfl, HK.out _, HBE.out _⟩
    | cons k ls' =>
      cases k with
      | inl cx =>
        obtain ⟨c, x⟩ := cx
        obtain ⟨b, y, rfl, hh, hc⟩ := h
        obtain ⟨T, z, rfl⟩ := hc.iface
        have tO := tyOfF
        have aT := asgFN
        have nA := noAsF
        have uW := hasUnwrapF
        have mU := methodUnwrapF
        have U := unwrapF (w := W1) ((HHp.out b (lt_of_heap hh)).trans hh)
        go_wp2_with fail
        refine U.mono ?_
        rintro e wx ⟨rfl, hwx⟩
        subst hwx
        go_wp2
        go_roundg ls'.length
        case measure => simp
        case rel => exact ⟨rfl, ls', rfl, hc⟩
      | inr l =>
        obtain ⟨b, y, rfl, hh, hc⟩ := h
        obtain ⟨T, z, rfl⟩ := hc.iface
        have tO := tyOfP
        have aT := asgPN
        have nA := noAsP
        have uW := hasUnwrapP
        have mU := methodUnwrapP
        have U := unwrapP (w := W1) ((HHp.out b (lt_of_heap hh)).trans hh)
        go_wp2_with fail
        refine U.mono ?_
        rintro e wx ⟨rfl, hwx⟩
        subst hwx
        go_wp2
        go_roundg ls'.length
        case measure => simp
        case rel => exact ⟨rfl, ls', rfl, hc⟩

set_option maxRecDepth 100000 in
set_option maxHeartbeats 8000000 in
theorem asF_as {ls : List Lk} {n : Int} {v : Value} {w0 w : World} (h : Ch w0 ls n v) (hw : Below w0.heap.size w0 w) {t a : Addr} {old : Value} (ha : w.cell? a = some (.pointer (some t))) (ht : w.cell? t = some old) (hf : w.frozen? t = false) :
    Calls Tryd.prog 58 #[v, .iface 101 (.pointer (some t)), .agg #[.pointer (some ⟨5, 101, none⟩), .pointer (some a), .int .u64 150], .iface 104 (.agg #[.pointer (some ⟨5, 54, none⟩)])] w fun e w' => ResF ls w0 w w' t e := by
  have h6 := @run_callFunc_extern Tryd.prog 55 _ (fun args => ReflectliteValue.unpack (args.getD 0 (.tuple #[]))) Tryd.func55 (by kernel_rfl) (by kernel_rfl) (by kernel_rfl) (by kernel_rfl)
  have h10 := @run_callFunc_extern Tryd.prog 48 _ ReflectliteType.typeOf Tryd.func48 (by kernel_rfl) (by kernel_rfl) (by kernel_rfl) (by kernel_rfl)
  have h35 := @run_callFunc_extern Tryd.prog 105 _ (ReflectliteType.relation "AssignableTo" ReflectliteType.assignableTo) Tryd.func105 (by kernel_rfl) (by kernel_rfl) (by kernel_rfl) (by kernel_rfl)
  have h11 := @run_callFunc_extern Tryd.prog 68 _ (ReflectliteValue.method (ReflectliteValue.valueError "reflectlite.Value.Elem" 0) ReflectliteValue.elem) Tryd.func68 (by kernel_rfl) (by kernel_rfl) (by kernel_rfl) (by kernel_rfl)
  have h12 := @run_callFunc_extern Tryd.prog 69 _ ReflectliteValue.set Tryd.func69 (by kernel_rfl) (by kernel_rfl) (by kernel_rfl) (by kernel_rfl)
  have mA := as_m_assign
  obtain ⟨W1, hW1⟩ : ∃ W, W = w.alloc (.cells #[.pointer (some ⟨5, 101, none⟩), .pointer (some a), .int .u64 150] 93) := ⟨_, rfl⟩
  have el := asF_elem a t W1 (by rw [hW1]; exact cell_one ha _)
  have r0 : W1.cell? ⟨w.heap.size, 0, none⟩ = some (.pointer (some ⟨5, 101, none⟩)) := by rw [hW1]; simp
  have r1 : W1.cell? ⟨w.heap.size, 1, none⟩ = some (.pointer (some a)) := by rw [hW1]; simp
  have r2 : W1.cell? ⟨w.heap.size, 2, none⟩ = some (.int .u64 150) := by rw [hW1]; simp
  have HC2 : Hid ((∀ o, (W1.alloc o).cell? t = some old) ∧ (∀ o, (W1.alloc o).frozen? t = false)) := by rw [hW1]; exact ⟨fun o => cell_two ht _ o, fun o => froz_two ht hf _ o⟩
  have HK : Hid (∀ {o : Obj} (u : Value), ((W1.alloc o).setCell t u).cell? t = some u) := by rw [hW1]; exact fun u => cell_hit ht _ _ u
  have HBE : Hid (∀ {o : Obj} (u : Value), Below t.block w ((W1.alloc o).setCell t u)) := by rw [hW1]; exact fun u => bel_hit ht _ _ u
  have HBL : Hid (Below w.heap.size w W1) := by rw [hW1]; exact (Below.refl _ _).alloc (Nat.le_refl _) _
  have HHp : Hid (∀ b, b < w0.heap.size → W1.heap[b]? = w0.heap[b]?) := fun b hb => (HBL.out.block b (Nat.lt_of_lt_of_le hb hw.size)).trans (hw.block b hb)
  go_enter Tryd.func58, Tryd.ntmps58
  go_wp2
  rw [← hW1]
  clear hW1
  go_loopg [0] ls.length (fun gk v wr => wr = W1 ∧ ∃ ls' : List Lk, ls'.length = gk ∧ Ch w0 ls' n v ∧ Hid (ffst ls' = ffst ls))
  case atStart => exact ⟨rfl, ls, rfl, h, rfl⟩
  case round =>
    clear h
    obtain ⟨hwr, ls', rfl, h, HI⟩ := hrel
    have hwr' := hwr.symm
    subst hwr'
    cases ls' with
    | nil =>
      have h' : _ = _ := h
      subst h'
      have tO := tyOfN
      have aT := asgNF
      have nA := noAsN
      have uN := noUnwrapN
      have vN := noUnwrapsN
      go_wp2
      go_ret
      exact Or.inl ⟨HI.out.symm, rfl, HBL.out⟩
    | cons k ls' =>
      cases k with
      | inl cx =>
        obtain ⟨c, x⟩ := cx
        obtain ⟨b, y, rfl, hh, hc⟩ := h
        have tO := tyOfF
        have aT := asgFF
        have vV := asF_value (.pointer (some ⟨b, 0, none⟩)) W1 _ rfl
        have sT := asF_set t ⟨W1.heap.size, 0, none⟩ (.pointer (some ⟨b, 0, none⟩)) old _ rfl (W1.alloc (.cells #[.pointer (some ⟨b, 0, none⟩)] 54)) (by simp) (HC2.out.1 _) (HC2.out.2 _)
        go_wp2
        go_ret
        exact Or.inr ⟨c, x, b, y, HI.out.symm, rfl, HK.out _, hh, HBE.out _⟩
      | inr l =>
        obtain ⟨b, y, rfl, hh, hc⟩ := h
        obtain ⟨T, z, rfl⟩ := hc.iface
        have tO := tyOfP
        have aT := asgPF
        have nA := noAsP
        have uW := hasUnwrapP
        have mU := methodUnwrapP
        have U := unwrapP (w := W1) ((HHp.out b (lt_of_heap hh)).trans hh)
        go_wp2_with fail
        refine U.mono ?_
        rintro e wx ⟨rfl, hwx⟩
        subst hwx
        go_wp2
        go_roundg ls'.length
        case measure => simp
        case rel => exact ⟨rfl, ls', rfl, hc, HI.out⟩

set_option maxRecDepth 100000 in
set_option maxHeartbeats 8000000 in
theorem asP_as {ls : List Lk} {n : Int} {v : Value} {w0 w : World} (h : Ch w0 ls n v) (hw : Below w0.heap.size w0 w) {t a : Addr} {old : Value} (ha : w.cell? a = some (.pointer (some t))) (ht : w.cell? t = some old) (hf : w.frozen? t = false) :
    Calls Tryd.prog 58 #[v, .iface 102 (.pointer (some t)), .agg #[.pointer (some ⟨5, 102, none⟩), .pointer (some a), .int .u64 150], .iface 104 (.agg #[.pointer (some ⟨5, 55, none⟩)])] w fun e w' => ResP ls w0 w w' t e := by
  have h6 := @run_callFunc_extern Tryd.prog 55 _ (fun args => ReflectliteValue.unpack (args.getD 0 (.tuple #[]))) Tryd.func55 (by kernel_rfl) (by kernel_rfl) (by kernel_rfl) (by kernel_rfl)
  have h10 := @run_callFunc_extern Tryd.prog 48 _ ReflectliteType.typeOf Tryd.func48 (by kernel_rfl) (by kernel_rfl) (by kernel_rfl) (by kernel_rfl)
  have h35 := @run_callFunc_extern Tryd.prog 105 _ (ReflectliteType.relation "AssignableTo" ReflectliteType.assignableTo) Tryd.func105 (by kernel_rfl) (by kernel_rfl) (by kernel_rfl) (by kernel_rfl)
  have h11 := @run_callFunc_extern Tryd.prog 68 _ (ReflectliteValue.method (ReflectliteValue.valueError "reflectlite.Value.Elem" 0) ReflectliteValue.elem) Tryd.func68 (by kernel_rfl) (by kernel_rfl) (by kernel_rfl) (by kernel_rfl)
  have h12 := @run_callFunc_extern Tryd.prog 69 _ ReflectliteValue.set Tryd.func69 (by kernel_rfl) (by kernel_rfl) (by kernel_rfl) (by kernel_rfl)
  have mA := as_m_assign
  obtain ⟨W1, hW1⟩ : ∃ W, W = w.alloc (.cells #[.pointer (some ⟨5, 102, none⟩), .pointer (some a), .int .u64 150] 93) := ⟨_, rfl⟩
  have el := asP_elem a t W1 (by rw [hW1]; exact cell_one ha _)
  have r0 : W1.cell? ⟨w.heap.size, 0, none⟩ = some (.pointer (some ⟨5, 102, none⟩)) := by rw [hW1]; simp
  have r1 : W1.cell? ⟨w.heap.size, 1, none⟩ = some (.pointer (some a)) := by rw [hW1]; simp
  have r2 : W1.cell? ⟨w.heap.size, 2, none⟩ = some (.int .u64 150) := by rw [hW1]; simp
  have HC2 : Hid ((∀ o, (W1.alloc o).cell? t = some old) ∧ (∀ o, (W1.alloc o).frozen? t = false)) := by rw [hW1]; exact ⟨fun o => cell_two ht _ o, fun o => froz_two ht hf _ o⟩
  have HK : Hid (∀ {o : Obj} (u : Value), ((W1.alloc o).setCell t u).cell? t = some u) := by rw [hW1]; exact fun u => cell_hit ht _ _ u
  have HBE : Hid (∀ {o : Obj} (u : Value), Below t.block w ((W1.alloc o).setCell t u)) := by rw [hW1]; exact fun u => bel_hit ht _ _ u
  have HBL : Hid (Below w.heap.size w W1) := by rw [hW1]; exact (Below.refl _ _).alloc (Nat.le_refl _) _
  have HHp : Hid (∀ b, b < w0.heap.size → W1.heap[b]? = w0.heap[b]?) := fun b hb => (HBL.out.block b (Nat.lt_of_lt_of_le hb hw.size)).trans (hw.block b hb)
  go_enter Tryd.func58, Tryd.ntmps58
  go_wp2
  rw [← hW1]
  clear hW1
  go_loopg [0] ls.length (fun gk v wr => wr = W1 ∧ ∃ ls' : List Lk, ls'.length = gk ∧ Ch w0 ls' n v ∧ Hid (pfst ls' = pfst ls))
  case atStart => exact ⟨rfl, ls, rfl, h, rfl⟩
  case round =>
    clear h
    obtain ⟨hwr, ls', rfl, h, HI⟩ := hrel
    have hwr' := hwr.symm
    subst hwr'
    cases ls' with
    | nil =>
      have h' : _ = _ := h
      subst h'
      have tO := tyOfN
      have aT := asgNP
      have nA := noAsN
      have uN := noUnwrapN
      have vN := noUnwrapsN
      go_wp2
      go_ret
      exact Or.inl ⟨HI.out.symm, rfl, HBL.out⟩
    | cons k ls' =>
      cases k with
      | inl cx =>
        obtain ⟨c, x⟩ := cx
        obtain ⟨b, y, rfl, hh, hc⟩ := h
        obtain ⟨T, z, rfl⟩ := hc.iface
        have tO := tyOfF
        have aT := asgFP
        have nA := noAsF
        have uW := hasUnwrapF
        have mU := methodUnwrapF
        have U := unwrapF (w := W1) ((HHp.out b (lt_of_heap hh)).trans hh)
        go_wp2_with fail
        refine U.mono ?_
        rintro e wx ⟨rfl, hwx⟩
        subst hwx
        go_wp2
        go_roundg ls'.length
        case measure => simp
        case rel => exact ⟨rfl, ls', rfl, hc, HI.out⟩
      | inr l =>
        obtain ⟨b, y, rfl, hh, hc⟩ := h
        have tO := tyOfP
        have aT := asgPP
        have vV := asP_value (.pointer (some ⟨b, 0, none⟩)) W1 _ rfl
        have sT := asP_set t ⟨W1.heap.size, 0, none⟩ (.pointer (some ⟨b, 0, none⟩)) old _ rfl (W1.alloc (.cells #[.pointer (some ⟨b, 0, none⟩)] 55)) (by simp) (HC2.out.1 _) (HC2.out.2 _)
        go_wp2
        go_ret
        exact Or.inr ⟨l, b, y, HI.out.symm, rfl, HK.out _, hh, HBE.out _⟩

end Go.Proofs.YtelobjhmbabiaaaDoor
