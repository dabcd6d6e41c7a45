/-
  errors.As and fault's first through rows of links, and of no error; Why, Call, Text, LineOf.
-/
import Derived.Test.YtelobjhmbabiaaaDoorFtG
namespace Go.Proofs.YtelobjhmbabiaaaDoor
open Go.RowKit Go.Extern.Stop Go.Stop Go.Extern


set_option maxRecDepth 100000 in
set_option maxHeartbeats 8000000 in
theorem AsN_ch {ls : List Lk} {n : Int} {v : Value} {w0 w : World} (h : Ch w0 ls n v) (hw : Below w0.heap.size w0 w) {t : Addr} {old : Value} (hg : ErrT w) (ht : w.cell? t = some old) (hf : w.frozen? t = false) :
    Calls Tryd.prog 40 #[v, .iface 71 (.pointer (some t))] w fun e w' => e = .returned (.bool true) ∧ w'.cell? t = some (.int .i64 n) ∧ Below t.block w w' := by
  have hlt := hg.pos
  have hl := blk_lt ht
  obtain ⟨TT, yy, rfl⟩ := h.iface
  have h6 := @run_callFunc_extern Tryd.prog 55 _ (fun args => ReflectliteValue.unpack (args.getD 0 (.tuple #[]))) Tryd.func55 (by kernel_rfl) (by kernel_rfl) (by kernel_rfl) (by kernel_rfl)
  have h7 := @run_callFunc_extern Tryd.prog 56 _ (ReflectliteValue.methodAny (ReflectliteValue.valueError "reflectlite.Value.Type" 0) (fun t _ _ _ => ReflectliteType.toType t)) Tryd.func56 (by kernel_rfl) (by kernel_rfl) (by kernel_rfl) (by kernel_rfl)
  have h8 := @run_callFunc_extern Tryd.prog 57 _ (ReflectliteValue.method (ReflectliteValue.valueError "reflectlite.Value.IsNil" 0) ReflectliteValue.isNil) Tryd.func57 (by kernel_rfl) (by kernel_rfl) (by kernel_rfl) (by kernel_rfl)
  have h27 := @run_callFunc_extern Tryd.prog 97 _ (ReflectliteType.abiMethod fun t => do pure (.int .u8 (← Rtype.kind t))) Tryd.func97 (by kernel_rfl) (by kernel_rfl) (by kernel_rfl) (by kernel_rfl)
  have h37 := @run_callFunc_extern Tryd.prog 107 _ (ReflectliteType.method ReflectliteType.elem) Tryd.func107 (by kernel_rfl) (by kernel_rfl) (by kernel_rfl) (by kernel_rfl)
  have h38 := @run_callFunc_extern Tryd.prog 108 _ (ReflectliteType.relation "Implements" ReflectliteType.implements_) Tryd.func108 (by kernel_rfl) (by kernel_rfl) (by kernel_rfl) (by kernel_rfl)
  have f6 := asN_ptr_value
  have f7 := asN_ptr_type
  have mK := as_m_kind
  have mE := as_m_elem
  have mI := as_m_impl
  have k27 := asN_kind_ptr
  have k25 := asN_kind_t
  have e27 := asN_elem_type
  have i25 := asN_implements
  have n8 := asN_isnil ⟨w.heap.size, 0, none⟩ t ((w.alloc (.cells #[.pointer (some t)] 71)).alloc (.cells #[.pointer (some ⟨5, 71, none⟩), .pointer (some ⟨w.heap.size, 0, none⟩), .int .u64 150] 93)) (by simp)
  have hg2 : ((w.alloc (.cells #[.pointer (some t)] 71)).alloc (.cells #[.pointer (some ⟨5, 71, none⟩), .pointer (some ⟨w.heap.size, 0, none⟩), .int .u64 150] 93)).cell? ⟨0, 0, none⟩ = some (.iface 104 (.agg #[.pointer (some ⟨5, 23, none⟩)])) := by
    unfold ErrT at hg
    exact cell_two hg _ _
  have HBW : Hid (Below w.heap.size w ((w.alloc (.cells #[.pointer (some t)] 71)).alloc (.cells #[.pointer (some ⟨5, 71, none⟩), .pointer (some ⟨w.heap.size, 0, none⟩), .int .u64 150] 93))) := ((Below.refl _ _).alloc (Nat.le_refl _) _).alloc (by simp) _
  have AS := asN_as (w := ((w.alloc (.cells #[.pointer (some t)] 71)).alloc (.cells #[.pointer (some ⟨5, 71, none⟩), .pointer (some ⟨w.heap.size, 0, none⟩), .int .u64 150] 93))) h (hw.trans (HBW.out.mono hw.size)) (t := t) (a := ⟨w.heap.size, 0, none⟩) (old := old) (by rw [World.cell?_alloc_lt _ _ ⟨w.heap.size, 0, none⟩ (by simp)]; simp) (cell_two ht _ _) (froz_two ht hf _ _)
  have HTL : Hid (t.block < w.heap.size) := hl
  clear hg h hl hf
  go_enter Tryd.func40, Tryd.ntmps40
  go_wp2_with fail
  refine AS.mono ?_
  rintro e w' ⟨rfl, hc, hb⟩
  have HB : Hid (w'.cell? t = some (.int .i64 n) ∧ Below t.block w w') := ⟨hc, (HBW.out.mono (Nat.le_of_lt HTL.out)).trans hb⟩
  clear hc hb
  go_wp2
  go_ret
  exact ⟨rfl, HB.out.1, HB.out.2⟩

set_option maxRecDepth 100000 in
theorem AsN_nil {t : Addr} (w : World) : Calls Tryd.prog 40 #[.nilIface, .iface 71 (.pointer (some t))] w fun e w' => e = .returned (.bool false) ∧ w' = w := by
  go_enter Tryd.func40, Tryd.ntmps40
  go_wp2
  go_ret
  exact ⟨rfl, rfl⟩

theorem recsN (w : World) : CallsD Tryd.prog 63 #[] .returning w fun e u' w' => e = .returned (.tuple #[]) ∧ u' = .returning ∧ w' = w := by
  refine callsD_of_wpS Tryd.func63 rfl fun c₀ cs hu => ?_
  apply wpS_region
  simp [wpOpsS, go_sem, recoverD, hu, Tryd.ntmps63, bodyPostS, results, Tryd.results63]
  cases c₀
  simp_all

set_option maxRecDepth 100000 in
set_option maxHeartbeats 2000000 in
theorem firstN_nil (w : World) : Calls Tryd.prog 50 #[.nilIface] w fun e w' => e = .returned (.int .i64 0) ∧ Below w.heap.size w w' := by
  have hmf : ∀ (fn : Fn) (first cap : Array Value) (w : World), (Instr.makeFunc fn first cap).run Tryd.prog w = .ok (.func fn first cap) w := fun _ _ _ _ => rfl
  have A1 := fun t W => AsN_nil (t := t) W
  have HB : Hid (∀ o, Below w.heap.size w (w.alloc o)) := fun o => (Below.refl _ _).alloc (Nat.le_refl _) o
  go_enter_defers Tryd.func50, Tryd.ntmps50
  go_wp2_with fail
  refine (A1 _ _).mono ?_
  rintro e w1 ⟨rfl, hw1⟩
  subst hw1
  go_wp2
  refine leaves_cons (f := 63) (args := #[]) (by simp) (by simp [go_sem]) ?_
  refine (recsN _).mono ?_
  rintro e u' w'' ⟨rfl, rfl, rfl⟩
  exact ⟨_, results_tmp rfl _ _ _, rfl, HB.out _⟩

set_option maxRecDepth 100000 in
set_option maxHeartbeats 2000000 in
theorem firstN_ch {ls : List Lk} {n : Int} {v : Value} {w : World} (h : Ch w ls n v) (hg : ErrT w) : Calls Tryd.prog 50 #[v] w fun e w' => e = .returned (.int .i64 n) ∧ Below w.heap.size w w' := by
  have hmf : ∀ (fn : Fn) (first cap : Array Value) (w : World), (Instr.makeFunc fn first cap).run Tryd.prog w = .ok (.func fn first cap) w := fun _ _ _ _ => rfl
  have B0 : Below w.heap.size w (w.alloc (.cells #[.int .i64 0] 32)) := (Below.refl _ _).alloc (Nat.le_refl _) _
  have A1 := AsN_ch (w := w.alloc (.cells #[.int .i64 0] 32)) h B0 (t := ⟨w.heap.size, 0, none⟩) (old := .int .i64 0) (hg.below B0 hg.pos) (by simp) (World.frozen?_alloc_new _ _ _ _)
  have HB : Hid (Below w.heap.size w (w.alloc (.cells #[.int .i64 0] 32))) := B0
  have HZ : Hid ((w.alloc (.cells #[.int .i64 0] 32)).cell? ⟨w.heap.size, 0, none⟩ = some (.int .i64 0)) := by show _ = _; simp
  have HC : Hid (Ch w ls n v ∧ ErrT w) := ⟨h, hg⟩
  clear hg h B0
  go_enter_defers Tryd.func50, Tryd.ntmps50
  go_wp2_with fail
  refine A1.mono ?_
  rintro e w1 ⟨rfl, hc, hb⟩
  have HD : Hid (Below w.heap.size w w1) := HB.out.trans hb
  clear hb
  go_wp2
  refine leaves_cons (f := 63) (args := #[]) (by simp) (by simp [go_sem]) ?_
  refine (recsN _).mono ?_
  rintro e u' w'' ⟨rfl, rfl, rfl⟩
  exact ⟨_, results_tmp rfl _ _ _, rfl, HD.out⟩

set_option maxRecDepth 100000 in
set_option maxHeartbeats 8000000 in
theorem AsF_ch {ls : List Lk} {n : Int} {v : Value} {w0 w : World} (h : Ch w0 ls n v) (hw : Below w0.heap.size w0 w) {t : Addr} {old : Value} (hg : ErrT w) (ht : w.cell? t = some old) (hf : w.frozen? t = false) :
    Calls Tryd.prog 40 #[v, .iface 101 (.pointer (some t))] w fun e w' => ResF ls w0 w w' t e := by
  have hlt := hg.pos
  have hl := blk_lt ht
  obtain ⟨TT, yy, rfl⟩ := h.iface
  have h6 := @run_callFunc_extern Tryd.prog 55 _ (fun args => ReflectliteValue.unpack (args.getD 0 (.tuple #[]))) Tryd.func55 (by kernel_rfl) (by kernel_rfl) (by kernel_rfl) (by kernel_rfl)
  have h7 := @run_callFunc_extern Tryd.prog 56 _ (ReflectliteValue.methodAny (ReflectliteValue.valueError "reflectlite.Value.Type" 0) (fun t _ _ _ => ReflectliteType.toType t)) Tryd.func56 (by kernel_rfl) (by kernel_rfl) (by kernel_rfl) (by kernel_rfl)
  have h8 := @run_callFunc_extern Tryd.prog 57 _ (ReflectliteValue.method (ReflectliteValue.valueError "reflectlite.Value.IsNil" 0) ReflectliteValue.isNil) Tryd.func57 (by kernel_rfl) (by kernel_rfl) (by kernel_rfl) (by kernel_rfl)
  have h27 := @run_callFunc_extern Tryd.prog 97 _ (ReflectliteType.abiMethod fun t => do pure (.int .u8 (← Rtype.kind t))) Tryd.func97 (by kernel_rfl) (by kernel_rfl) (by kernel_rfl) (by kernel_rfl)
  have h37 := @run_callFunc_extern Tryd.prog 107 _ (ReflectliteType.method ReflectliteType.elem) Tryd.func107 (by kernel_rfl) (by kernel_rfl) (by kernel_rfl) (by kernel_rfl)
  have h38 := @run_callFunc_extern Tryd.prog 108 _ (ReflectliteType.relation "Implements" ReflectliteType.implements_) Tryd.func108 (by kernel_rfl) (by kernel_rfl) (by kernel_rfl) (by kernel_rfl)
  have f6 := asF_ptr_value
  have f7 := asF_ptr_type
  have mK := as_m_kind
  have mE := as_m_elem
  have mI := as_m_impl
  have k27 := asF_kind_ptr
  have k25 := asF_kind_t
  have e27 := asF_elem_type
  have i25 := asF_implements
  have n8 := asF_isnil ⟨w.heap.size, 0, none⟩ t ((w.alloc (.cells #[.pointer (some t)] 101)).alloc (.cells #[.pointer (some ⟨5, 101, none⟩), .pointer (some ⟨w.heap.size, 0, none⟩), .int .u64 150] 93)) (by simp)
  have hg2 : ((w.alloc (.cells #[.pointer (some t)] 101)).alloc (.cells #[.pointer (some ⟨5, 101, none⟩), .pointer (some ⟨w.heap.size, 0, none⟩), .int .u64 150] 93)).cell? ⟨0, 0, none⟩ = some (.iface 104 (.agg #[.pointer (some ⟨5, 23, none⟩)])) := by
    unfold ErrT at hg
    exact cell_two hg _ _
  have HBW : Hid (Below w.heap.size w ((w.alloc (.cells #[.pointer (some t)] 101)).alloc (.cells #[.pointer (some ⟨5, 101, none⟩), .pointer (some ⟨w.heap.size, 0, none⟩), .int .u64 150] 93))) := ((Below.refl _ _).alloc (Nat.le_refl _) _).alloc (by simp) _
  have AS := asF_as (w := ((w.alloc (.cells #[.pointer (some t)] 101)).alloc (.cells #[.pointer (some ⟨5, 101, none⟩), .pointer (some ⟨w.heap.size, 0, none⟩), .int .u64 150] 93))) h (hw.trans (HBW.out.mono hw.size)) (t := t) (a := ⟨w.heap.size, 0, none⟩) (old := old) (by rw [World.cell?_alloc_lt _ _ ⟨w.heap.size, 0, none⟩ (by simp)]; simp) (cell_two ht _ _) (froz_two ht hf _ _)
  have HTL : Hid (t.block < w.heap.size) := hl
  clear hg h hl hf
  go_enter Tryd.func40, Tryd.ntmps40
  go_wp2_with fail
  refine AS.mono ?_
  rintro e w' hr
  rcases hr with ⟨a1, rfl, a3⟩ | ⟨c, x, b, y, a1, rfl, a3, a4, a5⟩
  · have HB : Hid (ffst ls = none ∧ Below w.heap.size w w') := ⟨a1, HBW.out.trans (a3.mono HBW.out.size)⟩
    clear a1 a3
    go_wp2
    go_ret
    exact Or.inl ⟨HB.out.1, rfl, HB.out.2⟩
  · have HB : Hid ((ffst ls = some (c, x) ∧ w'.cell? t = some (.pointer (some ⟨b, 0, none⟩)) ∧ w0.heap[b]? = some (.cells #[.string c, .string x, y] 80 (0, 0))) ∧ Below t.block w w') := ⟨⟨a1, a3, a4⟩, (HBW.out.mono (Nat.le_of_lt HTL.out)).trans a5⟩
    clear a1 a3 a4 a5
    go_wp2
    go_ret
    exact Or.inr ⟨c, x, b, y, HB.out.1.1, rfl, HB.out.1.2.1, HB.out.1.2.2, HB.out.2⟩

set_option maxRecDepth 100000 in
theorem AsF_nil {t : Addr} (w : World) : Calls Tryd.prog 40 #[.nilIface, .iface 101 (.pointer (some t))] w fun e w' => e = .returned (.bool false) ∧ w' = w := by
  go_enter Tryd.func40, Tryd.ntmps40
  go_wp2
  go_ret
  exact ⟨rfl, rfl⟩

theorem recsF (w : World) : CallsD Tryd.prog 60 #[] .returning w fun e u' w' => e = .returned (.tuple #[]) ∧ u' = .returning ∧ w' = w := by
  refine callsD_of_wpS Tryd.func60 rfl fun c₀ cs hu => ?_
  apply wpS_region
  simp [wpOpsS, go_sem, recoverD, hu, Tryd.ntmps60, bodyPostS, results, Tryd.results60]
  cases c₀
  simp_all

set_option maxRecDepth 100000 in
set_option maxHeartbeats 2000000 in
theorem firstF_nil (w : World) : Calls Tryd.prog 45 #[.nilIface] w fun e w' => e = .returned (.pointer none) ∧ Below w.heap.size w w' := by
  have hmf : ∀ (fn : Fn) (first cap : Array Value) (w : World), (Instr.makeFunc fn first cap).run Tryd.prog w = .ok (.func fn first cap) w := fun _ _ _ _ => rfl
  have A1 := fun t W => AsF_nil (t := t) W
  have HB : Hid (∀ o, Below w.heap.size w (w.alloc o)) := fun o => (Below.refl _ _).alloc (Nat.le_refl _) o
  go_enter_defers Tryd.func45, Tryd.ntmps45
  go_wp2_with fail
  refine (A1 _ _).mono ?_
  rintro e w1 ⟨rfl, hw1⟩
  subst hw1
  go_wp2
  refine leaves_cons (f := 60) (args := #[]) (by simp) (by simp [go_sem]) ?_
  refine (recsF _).mono ?_
  rintro e u' w'' ⟨rfl, rfl, rfl⟩
  exact ⟨_, results_tmp rfl _ _ _, rfl, HB.out _⟩

/-- The first link of the kind, or none. -/
def FirF (ls : List Lk) (w w' : World) (e : Ending) : Prop := (ffst ls = none ∧ e = .returned (.pointer none) ∧ Below w.heap.size w w') ∨ (∃ c x b y, ffst ls = some (c, x) ∧ e = .returned (.pointer (some ⟨b, 0, none⟩)) ∧ w'.heap[b]? = some (.cells #[.string c, .string x, y] 80 (0, 0)) ∧ Below w.heap.size w w')

set_option maxRecDepth 100000 in
set_option maxHeartbeats 2000000 in
theorem firstF_ch {ls : List Lk} {n : Int} {v : Value} {w : World} (h : Ch w ls n v) (hg : ErrT w) : Calls Tryd.prog 45 #[v] w fun e w' => FirF ls w w' e := by
  have hmf : ∀ (fn : Fn) (first cap : Array Value) (w : World), (Instr.makeFunc fn first cap).run Tryd.prog w = .ok (.func fn first cap) w := fun _ _ _ _ => rfl
  have B0 : Below w.heap.size w (w.alloc (.cells #[.pointer none] 54)) := (Below.refl _ _).alloc (Nat.le_refl _) _
  have A1 := AsF_ch (w := w.alloc (.cells #[.pointer none] 54)) h B0 (t := ⟨w.heap.size, 0, none⟩) (old := .pointer none) (hg.below B0 hg.pos) (by simp) (World.frozen?_alloc_new _ _ _ _)
  have HB : Hid (Below w.heap.size w (w.alloc (.cells #[.pointer none] 54))) := B0
  have HZ : Hid ((w.alloc (.cells #[.pointer none] 54)).cell? ⟨w.heap.size, 0, none⟩ = some (.pointer none)) := by show _ = _; simp
  have HC : Hid (Ch w ls n v ∧ ErrT w) := ⟨h, hg⟩
  clear hg h B0
  go_enter_defers Tryd.func45, Tryd.ntmps45
  go_wp2_with fail
  refine A1.mono ?_
  rintro e w1 hr
  rcases hr with ⟨a1, rfl, a3⟩ | ⟨c, x, b, y, a1, rfl, a3, a4, a5⟩
  · have HD : Hid (ffst ls = none ∧ Below w.heap.size w w1) := ⟨a1, HB.out.trans (a3.mono HB.out.size)⟩
    have ct : w1.cell? ⟨w.heap.size, 0, none⟩ = some (.pointer none) := (a3.cell (p := ⟨w.heap.size, 0, none⟩) (by simp)).trans HZ.out
    clear a1 a3
    go_wp2
    refine leaves_cons (f := 60) (args := #[]) (by simp) (by simp [go_sem]) ?_
    refine (recsF _).mono ?_
    rintro e u' w'' ⟨rfl, rfl, rfl⟩
    exact ⟨_, results_tmp rfl _ _ _, Or.inl ⟨HD.out.1, rfl, HD.out.2⟩⟩
  · have HD : Hid (ffst ls = some (c, x) ∧ Below w.heap.size w w1 ∧ w1.heap[b]? = some (.cells #[.string c, .string x, y] 80 (0, 0))) := ⟨a1, HB.out.trans a5, ((HB.out.trans a5).block b (lt_of_heap a4)).trans a4⟩
    clear a1 a4 a5
    go_wp2
    refine leaves_cons (f := 60) (args := #[]) (by simp) (by simp [go_sem]) ?_
    refine (recsF _).mono ?_
    rintro e u' w'' ⟨rfl, rfl, rfl⟩
    exact ⟨_, results_tmp rfl _ _ _, Or.inr ⟨c, x, b, y, HD.out.1, rfl, HD.out.2.2, HD.out.2.1⟩⟩

set_option maxRecDepth 100000 in
set_option maxHeartbeats 8000000 in
theorem AsP_ch {ls : List Lk} {n : Int} {v : Value} {w0 w : World} (h : Ch w0 ls n v) (hw : Below w0.heap.size w0 w) {t : Addr} {old : Value} (hg : ErrT w) (ht : w.cell? t = some old) (hf : w.frozen? t = false) :
    Calls Tryd.prog 40 #[v, .iface 102 (.pointer (some t))] w fun e w' => ResP ls w0 w w' t e := by
  have hlt := hg.pos
  have hl := blk_lt ht
  obtain ⟨TT, yy, rfl⟩ := h.iface
  have h6 := @run_callFunc_extern Tryd.prog 55 _ (fun args => ReflectliteValue.unpack (args.getD 0 (.tuple #[]))) Tryd.func55 (by kernel_rfl) (by kernel_rfl) (by kernel_rfl) (by kernel_rfl)
  have h7 := @run_callFunc_extern Tryd.prog 56 _ (ReflectliteValue.methodAny (ReflectliteValue.valueError "reflectlite.Value.Type" 0) (fun t _ _ _ => ReflectliteType.toType t)) Tryd.func56 (by kernel_rfl) (by kernel_rfl) (by kernel_rfl) (by kernel_rfl)
  have h8 := @run_callFunc_extern Tryd.prog 57 _ (ReflectliteValue.method (ReflectliteValue.valueError "reflectlite.Value.IsNil" 0) ReflectliteValue.isNil) Tryd.func57 (by kernel_rfl) (by kernel_rfl) (by kernel_rfl) (by kernel_rfl)
  have h27 := @run_callFunc_extern Tryd.prog 97 _ (ReflectliteType.abiMethod fun t => do pure (.int .u8 (← Rtype.kind t))) Tryd.func97 (by kernel_rfl) (by kernel_rfl) (by kernel_rfl) (by kernel_rfl)
  have h37 := @run_callFunc_extern Tryd.prog 107 _ (ReflectliteType.method ReflectliteType.elem) Tryd.func107 (by kernel_rfl) (by kernel_rfl) (by kernel_rfl) (by kernel_rfl)
  have h38 := @run_callFunc_extern Tryd.prog 108 _ (ReflectliteType.relation "Implements" ReflectliteType.implements_) Tryd.func108 (by kernel_rfl) (by kernel_rfl) (by kernel_rfl) (by kernel_rfl)
  have f6 := asP_ptr_value
  have f7 := asP_ptr_type
  have mK := as_m_kind
  have mE := as_m_elem
  have mI := as_m_impl
  have k27 := asP_kind_ptr
  have k25 := asP_kind_t
  have e27 := asP_elem_type
  have i25 := asP_implements
  have n8 := asP_isnil ⟨w.heap.size, 0, none⟩ t ((w.alloc (.cells #[.pointer (some t)] 102)).alloc (.cells #[.pointer (some ⟨5, 102, none⟩), .pointer (some ⟨w.heap.size, 0, none⟩), .int .u64 150] 93)) (by simp)
  have hg2 : ((w.alloc (.cells #[.pointer (some t)] 102)).alloc (.cells #[.pointer (some ⟨5, 102, none⟩), .pointer (some ⟨w.heap.size, 0, none⟩), .int .u64 150] 93)).cell? ⟨0, 0, none⟩ = some (.iface 104 (.agg #[.pointer (some ⟨5, 23, none⟩)])) := by
    unfold ErrT at hg
    exact cell_two hg _ _
  have HBW : Hid (Below w.heap.size w ((w.alloc (.cells #[.pointer (some t)] 102)).alloc (.cells #[.pointer (some ⟨5, 102, none⟩), .pointer (some ⟨w.heap.size, 0, none⟩), .int .u64 150] 93))) := ((Below.refl _ _).alloc (Nat.le_refl _) _).alloc (by simp) _
  have AS := asP_as (w := ((w.alloc (.cells #[.pointer (some t)] 102)).alloc (.cells #[.pointer (some ⟨5, 102, none⟩), .pointer (some ⟨w.heap.size, 0, none⟩), .int .u64 150] 93))) h (hw.trans (HBW.out.mono hw.size)) (t := t) (a := ⟨w.heap.size, 0, none⟩) (old := old) (by rw [World.cell?_alloc_lt _ _ ⟨w.heap.size, 0, none⟩ (by simp)]; simp) (cell_two ht _ _) (froz_two ht hf _ _)
  have HTL : Hid (t.block < w.heap.size) := hl
  clear hg h hl hf
  go_enter Tryd.func40, Tryd.ntmps40
  go_wp2_with fail
  refine AS.mono ?_
  rintro e w' hr
  rcases hr with ⟨a1, rfl, a3⟩ | ⟨l, b, y, a1, rfl, a3, a4, a5⟩
  · have HB : Hid (pfst ls = none ∧ Below w.heap.size w w') := ⟨a1, HBW.out.trans (a3.mono HBW.out.size)⟩
    clear a1 a3
    go_wp2
    go_ret
    exact Or.inl ⟨HB.out.1, rfl, HB.out.2⟩
  · have HB : Hid ((pfst ls = some l ∧ w'.cell? t = some (.pointer (some ⟨b, 0, none⟩)) ∧ w0.heap[b]? = some (.cells #[.int .i64 l, y] 83 (0, 0))) ∧ Below t.block w w') := ⟨⟨a1, a3, a4⟩, (HBW.out.mono (Nat.le_of_lt HTL.out)).trans a5⟩
    clear a1 a3 a4 a5
    go_wp2
    go_ret
    exact Or.inr ⟨l, b, y, HB.out.1.1, rfl, HB.out.1.2.1, HB.out.1.2.2, HB.out.2⟩

set_option maxRecDepth 100000 in
theorem AsP_nil {t : Addr} (w : World) : Calls Tryd.prog 40 #[.nilIface, .iface 102 (.pointer (some t))] w fun e w' => e = .returned (.bool false) ∧ w' = w := by
  go_enter Tryd.func40, Tryd.ntmps40
  go_wp2
  go_ret
  exact ⟨rfl, rfl⟩

theorem recsP (w : World) : CallsD Tryd.prog 62 #[] .returning w fun e u' w' => e = .returned (.tuple #[]) ∧ u' = .returning ∧ w' = w := by
  refine callsD_of_wpS Tryd.func62 rfl fun c₀ cs hu => ?_
  apply wpS_region
  simp [wpOpsS, go_sem, recoverD, hu, Tryd.ntmps62, bodyPostS, results, Tryd.results62]
  cases c₀
  simp_all

set_option maxRecDepth 100000 in
set_option maxHeartbeats 2000000 in
theorem firstP_nil (w : World) : Calls Tryd.prog 47 #[.nilIface] w fun e w' => e = .returned (.pointer none) ∧ Below w.heap.size w w' := by
  have hmf : ∀ (fn : Fn) (first cap : Array Value) (w : World), (Instr.makeFunc fn first cap).run Tryd.prog w = .ok (.func fn first cap) w := fun _ _ _ _ => rfl
  have A1 := fun t W => AsP_nil (t := t) W
  have HB : Hid (∀ o, Below w.heap.size w (w.alloc o)) := fun o => (Below.refl _ _).alloc (Nat.le_refl _) o
  go_enter_defers Tryd.func47, Tryd.ntmps47
  go_wp2_with fail
  refine (A1 _ _).mono ?_
  rintro e w1 ⟨rfl, hw1⟩
  subst hw1
  go_wp2
  refine leaves_cons (f := 62) (args := #[]) (by simp) (by simp [go_sem]) ?_
  refine (recsP _).mono ?_
  rintro e u' w'' ⟨rfl, rfl, rfl⟩
  exact ⟨_, results_tmp rfl _ _ _, rfl, HB.out _⟩

/-- The first link of the kind, or none. -/
def FirP (ls : List Lk) (w w' : World) (e : Ending) : Prop := (pfst ls = none ∧ e = .returned (.pointer none) ∧ Below w.heap.size w w') ∨ (∃ l b y, pfst ls = some l ∧ e = .returned (.pointer (some ⟨b, 0, none⟩)) ∧ w'.heap[b]? = some (.cells #[.int .i64 l, y] 83 (0, 0)) ∧ Below w.heap.size w w')

set_option maxRecDepth 100000 in
set_option maxHeartbeats 2000000 in
theorem firstP_ch {ls : List Lk} {n : Int} {v : Value} {w : World} (h : Ch w ls n v) (hg : ErrT w) : Calls Tryd.prog 47 #[v] w fun e w' => FirP ls w w' e := by
  have hmf : ∀ (fn : Fn) (first cap : Array Value) (w : World), (Instr.makeFunc fn first cap).run Tryd.prog w = .ok (.func fn first cap) w := fun _ _ _ _ => rfl
  have B0 : Below w.heap.size w (w.alloc (.cells #[.pointer none] 55)) := (Below.refl _ _).alloc (Nat.le_refl _) _
  have A1 := AsP_ch (w := w.alloc (.cells #[.pointer none] 55)) h B0 (t := ⟨w.heap.size, 0, none⟩) (old := .pointer none) (hg.below B0 hg.pos) (by simp) (World.frozen?_alloc_new _ _ _ _)
  have HB : Hid (Below w.heap.size w (w.alloc (.cells #[.pointer none] 55))) := B0
  have HZ : Hid ((w.alloc (.cells #[.pointer none] 55)).cell? ⟨w.heap.size, 0, none⟩ = some (.pointer none)) := by show _ = _; simp
  have HC : Hid (Ch w ls n v ∧ ErrT w) := ⟨h, hg⟩
  clear hg h B0
  go_enter_defers Tryd.func47, Tryd.ntmps47
  go_wp2_with fail
  refine A1.mono ?_
  rintro e w1 hr
  rcases hr with ⟨a1, rfl, a3⟩ | ⟨l, b, y, a1, rfl, a3, a4, a5⟩
  · have HD : Hid (pfst ls = none ∧ Below w.heap.size w w1) := ⟨a1, HB.out.trans (a3.mono HB.out.size)⟩
    have ct : w1.cell? ⟨w.heap.size, 0, none⟩ = some (.pointer none) := (a3.cell (p := ⟨w.heap.size, 0, none⟩) (by simp)).trans HZ.out
    clear a1 a3
    go_wp2
    refine leaves_cons (f := 62) (args := #[]) (by simp) (by simp [go_sem]) ?_
    refine (recsP _).mono ?_
    rintro e u' w'' ⟨rfl, rfl, rfl⟩
    exact ⟨_, results_tmp rfl _ _ _, Or.inl ⟨HD.out.1, rfl, HD.out.2⟩⟩
  · have HD : Hid (pfst ls = some l ∧ Below w.heap.size w w1 ∧ w1.heap[b]? = some (.cells #[.int .i64 l, y] 83 (0, 0))) := ⟨a1, HB.out.trans a5, ((HB.out.trans a5).block b (lt_of_heap a4)).trans a4⟩
    clear a1 a4 a5
    go_wp2
    refine leaves_cons (f := 62) (args := #[]) (by simp) (by simp [go_sem]) ?_
    refine (recsP _).mono ?_
    rintro e u' w'' ⟨rfl, rfl, rfl⟩
    exact ⟨_, results_tmp rfl _ _ _, Or.inr ⟨l, b, y, HD.out.1, rfl, HD.out.2.2, HD.out.2.1⟩⟩

end Go.Proofs.YtelobjhmbabiaaaDoor
