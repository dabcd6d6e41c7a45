/-
  What the links tell: the text of a number, of a fault, of a place; rows of links.
-/
import Derived.Test.YtelobjhmbabiaaaDoorFtA
import Derived.Test.YtelobjhmbabiaaaDoorFtQ
import Derived.Defers
import Derived.Recover
import Derived.Deep.DeepMust
namespace Go.Proofs.YtelobjhmbabiaaaDoor
open Go.RowKit Go.Extern.Stop Go.Stop Go.Extern

/-- The table of powers, whatever is done from B on. -/
def PowB (B : Nat) (w : World) : Prop := ∀ w', Below B w w' → Pow w'
theorem PowB.step {w w' : World} (h : PowB w.heap.size w) (hb : Below w.heap.size w w') : PowB w'.heap.size w' := fun W b => h W (hb.trans (b.mono hb.size))
theorem below_grow (w : World) (k : Nat) (os : Array Obj) : Below w.heap.size w (Sort.grow (w.drewN k) os) :=
  ⟨rfl, rfl, rfl, by simp [Sort.grow, World.drewN], fun i hi => by
    show (w.heap ++ os)[i]? = w.heap[i]?
    exact Array.getElem?_append_left hi⟩
/-- The text of a number. -/
def itB (n : Int) : ByteArray := ⟨(Lib.itoa n).toArray⟩
theorem itB_size {n : Int} (h0 : -9223372036854775808 ≤ n) (h1 : n ≤ 9223372036854775807) : (itB n).size ≤ 1000 := by
  have := Lib.itoa_length_le n h0 h1
  show (Lib.itoa n).toArray.size ≤ 1000
  rw [List.size_toArray]
  omega
theorem itoa_full {n : Int} (h0 : -9223372036854775808 ≤ n) (h1 : n ≤ 9223372036854775807) (W : World) (h : Pow W) : Calls Tryd.prog 44 #[.int .i64 n] W fun x w' => x = .returned (.string (itB n)) ∧ Below W.heap.size W w' := by
  refine (itoa_any n h0 h1 W h).mono ?_
  rintro e w1 ⟨rfl, k, os, rfl⟩
  exact ⟨rfl, below_grow W k os⟩
def erB : ByteArray := ⟨#[101, 114, 114, 111, 114, 32]⟩

theorem rec_idle (w : World) : CallsD Tryd.prog 64 #[] .returning w fun e u' w' => e = .returned (.tuple #[]) ∧ u' = .returning ∧ w' = w := by
  refine callsD_of_wpS Tryd.func64 rfl fun c₀ cs hu => ?_
  apply wpS_region
  simp [wpOpsS, go_sem, recoverD, hu, Tryd.ntmps64, bodyPostS, results, Tryd.results64]
  cases c₀
  simp_all

set_option maxRecDepth 100000 in
set_option maxHeartbeats 1000000 in
theorem clone_any (s : ByteArray) (hs : s.size ≤ 281474976710656) (w : World) :
    Calls Tryd.prog 46 #[.string s] w fun e w' => e = .returned (.string s) ∧ Below w.heap.size w w' := by
  have I := fun W => cloneLite_any s hs W
  go_enter Tryd.func46, Tryd.ntmps46
  go_wp2_with fail
  refine (I _).mono ?_
  rintro e w1 ⟨rfl, h1⟩
  go_wp2
  go_ret
  exact ⟨rfl, h1⟩


/-- What is quoted. -/
def qB (t : ByteArray) : ByteArray := ⟨(qL t.data.toList).toArray⟩
def lnB : ByteArray := ⟨#[108, 105, 110, 101, 32]⟩
def clB : ByteArray := ⟨#[58, 32]⟩
def spB : ByteArray := ⟨#[32]⟩
/-- What a row of links tells. -/
def tx : List Lk → Int → ByteArray
  | [], n => erB ++ itB n
  | .inl (c, t) :: ls, n => c ++ spB ++ qB t ++ clB ++ tx ls n
  | .inr l :: ls, n => lnB ++ itB l ++ clB ++ tx ls n

set_option maxRecDepth 100000 in
set_option maxHeartbeats 1000000 in
theorem errno_text {n : Int} (h0 : -9223372036854775808 ≤ n) (h1 : n ≤ 9223372036854775807) (w : World) (hP : PowB w.heap.size w) :
    Calls Tryd.prog 19 #[.int .i64 n] w fun e w' => e = .returned (.string (erB ++ itB n)) ∧ Below w.heap.size w w' := by
  have I := itoa_full h0 h1 w (hP w (Below.refl _ _))
  have hz := itB_size h0 h1
  unfold erB
  generalize itB n = T at *
  go_enter Tryd.func19, Tryd.ntmps19
  go_wp2_with fail
  refine I.mono ?_
  rintro e w1 ⟨rfl, hb1⟩
  go_wp2
  go_ret
  exact ⟨rfl, hb1⟩

set_option maxRecDepth 100000 in
set_option maxHeartbeats 2000000 in
theorem fault_text {c t T : ByteArray} {e : Value} {b : Nat} {w : World} (hh : w.heap[b]? = some (.cells #[.string c, .string t, e] 80 (0, 0)))
    (hz : (c ++ spB ++ qB t ++ clB ++ T).size ≤ 1000000000)
    (IH : ∀ W, Below w.heap.size w W → Calls Tryd.prog 51 #[e] W fun x w' => x = .returned (.string T) ∧ Below W.heap.size W w') :
    Calls Tryd.prog 29 #[.pointer (some ⟨b, 0, none⟩)] w fun x w' => x = .returned (.string (c ++ spB ++ qB t ++ clB ++ T)) ∧ Below w.heap.size w w' := by
  have hbl := lt_of_heap hh
  have c0 : w.cell? ⟨b, 0, none⟩ = some (.string c) := by simp [World.cell?, hh]
  have c1 : w.cell? ⟨b, 1, none⟩ = some (.string t) := by simp [World.cell?, hh]
  have c2 : w.cell? ⟨b, 2, none⟩ = some e := by simp [World.cell?, hh]
  have q1 : (qB t).size = (qIn t.data.toList).length + 2 := by simp [qB, qL, ByteArray.size]
  have q2 := qIn_length_ge t.data.toList
  rw [len_data] at q2
  simp only [ByteArray.size_append] at hz
  have QT := fun W => quote_any t (by omega) W
  have HBL : Hid (b < w.heap.size) := hbl
  clear hh hbl q1 q2
  unfold spB clB
  unfold qB at *
  generalize (⟨(qL t.data.toList).toArray⟩ : ByteArray) = Q at *
  have z1 : c.size ≤ 1000000000 := by omega
  have z2 : Q.size ≤ 1000000000 := by omega
  have z3 : T.size ≤ 1000000000 := by omega
  clear hz
  obtain ⟨a1, e1⟩ : ∃ a, a = c ++ (⟨#[32]⟩ : ByteArray) := ⟨_, rfl⟩
  have y1 : a1.size ≤ 1000000001 := by rw [e1, ByteArray.size_append, show (⟨#[32]⟩ : ByteArray).size = 1 from rfl]; omega
  have q1 : ∀ W, (Op.stringOp .add c ⟨#[32]⟩).run Tryd.prog W = .ok (.string a1) W := fun W => by rw [e1]; exact run_string_add_sum W _ _ (by rw [show (⟨#[32]⟩ : ByteArray).size = 1 from rfl]; omega)
  obtain ⟨a2, e2⟩ : ∃ a, a = a1 ++ Q := ⟨_, rfl⟩
  have y2 : a2.size ≤ 2000000001 := by rw [e2, ByteArray.size_append]; omega
  have q2 : ∀ W, (Op.stringOp .add a1 Q).run Tryd.prog W = .ok (.string a2) W := fun W => by rw [e2]; exact run_string_add_sum W _ _ (by omega)
  obtain ⟨a3, e3⟩ : ∃ a, a = a2 ++ (⟨#[58, 32]⟩ : ByteArray) := ⟨_, rfl⟩
  have y3 : a3.size ≤ 2000000003 := by rw [e3, ByteArray.size_append, show (⟨#[58, 32]⟩ : ByteArray).size = 2 from rfl]; omega
  have q3 : ∀ W, (Op.stringOp .add a2 ⟨#[58, 32]⟩).run Tryd.prog W = .ok (.string a3) W := fun W => by rw [e3]; exact run_string_add_sum W _ _ (by rw [show (⟨#[58, 32]⟩ : ByteArray).size = 2 from rfl]; omega)
  obtain ⟨a4, e4⟩ : ∃ a, a = a3 ++ T := ⟨_, rfl⟩
  have q4 : ∀ W, (Op.stringOp .add a3 T).run Tryd.prog W = .ok (.string a4) W := fun W => by rw [e4]; exact run_string_add_sum W _ _ (by omega)
  rw [← e1, ← e2, ← e3, ← e4]
  clear e1 e2 e3 e4 y1 y2 y3 z1 z2 z3
  go_enter Tryd.func29, Tryd.ntmps29
  go_wp2_with fail
  go_region_held3 (fun w' => w'.cell? ⟨b, 0, none⟩ = some (.string c) ∧ w'.cell? ⟨b, 1, none⟩ = some (.string t) ∧ w'.cell? ⟨b, 2, none⟩ = some e) (simp [*, go_sem])
    (first
      | (go_at_call 10; refine (QT _).mono ?_; rintro x w2 ⟨rfl, hb2⟩; have B2 : Hid (Below w.heap.size w w2) := (Below.refl _ _).drew.trans hb2; clear hb2; have u0 := (B2.out.cell (p := ⟨b, 0, none⟩) HBL.out).trans c0; have u1 := (B2.out.cell (p := ⟨b, 1, none⟩) HBL.out).trans c1; have u2 := (B2.out.cell (p := ⟨b, 2, none⟩) HBL.out).trans c2)
      | (go_at_call 51; refine (IH _ B2.out).mono ?_; rintro x w3 ⟨rfl, hb3⟩; have B3 : Hid (Below w.heap.size w w3) := B2.out.trans (hb3.mono B2.out.size); clear hb3; have v0 := (B3.out.cell (p := ⟨b, 0, none⟩) HBL.out).trans c0; have v1 := (B3.out.cell (p := ⟨b, 1, none⟩) HBL.out).trans c1; have v2 := (B3.out.cell (p := ⟨b, 2, none⟩) HBL.out).trans c2))
  go_wp2
  go_ret
  exact ⟨rfl, B3.out⟩

set_option maxRecDepth 100000 in
set_option maxHeartbeats 2000000 in
theorem place_text {l : Int} {T : ByteArray} {e : Value} {b : Nat} {w : World} (hh : w.heap[b]? = some (.cells #[.int .i64 l, e] 83 (0, 0)))
    (h0 : -9223372036854775808 ≤ l) (h1 : l ≤ 9223372036854775807) (hP : PowB w.heap.size w) (hz : (lnB ++ itB l ++ clB ++ T).size ≤ 1000000000)
    (IH : ∀ W, Below w.heap.size w W → Calls Tryd.prog 51 #[e] W fun x w' => x = .returned (.string T) ∧ Below W.heap.size W w') :
    Calls Tryd.prog 31 #[.pointer (some ⟨b, 0, none⟩)] w fun x w' => x = .returned (.string (lnB ++ itB l ++ clB ++ T)) ∧ Below w.heap.size w w' := by
  have hbl := lt_of_heap hh
  have c0 : w.cell? ⟨b, 0, none⟩ = some (.int .i64 l) := by simp [World.cell?, hh]
  have c1 : w.cell? ⟨b, 1, none⟩ = some e := by simp [World.cell?, hh]
  simp only [ByteArray.size_append] at hz
  have IT := fun W (h : Below w.heap.size w W) => itoa_full h0 h1 W (hP W h)
  have HBL : Hid (b < w.heap.size) := hbl
  clear hh hbl hP h0 h1
  unfold lnB clB
  generalize itB l = Q at *
  have z2 : Q.size ≤ 1000000000 := by omega
  have z3 : T.size ≤ 1000000000 := by omega
  clear hz
  obtain ⟨a1, e1⟩ : ∃ a, a = (⟨#[108, 105, 110, 101, 32]⟩ : ByteArray) ++ Q := ⟨_, rfl⟩
  have y1 : a1.size ≤ 1000000005 := by rw [e1, ByteArray.size_append, show (⟨#[108, 105, 110, 101, 32]⟩ : ByteArray).size = 5 from rfl]; omega
  have q1 : ∀ W, (Op.stringOp .add ⟨#[108, 105, 110, 101, 32]⟩ Q).run Tryd.prog W = .ok (.string a1) W := fun W => by rw [e1]; exact run_string_add_sum W _ _ (by rw [show (⟨#[108, 105, 110, 101, 32]⟩ : ByteArray).size = 5 from rfl]; omega)
  obtain ⟨a3, e3⟩ : ∃ a, a = a1 ++ (⟨#[58, 32]⟩ : ByteArray) := ⟨_, rfl⟩
  have y3 : a3.size ≤ 2000000003 := by rw [e3, ByteArray.size_append, show (⟨#[58, 32]⟩ : ByteArray).size = 2 from rfl]; omega
  have q3 : ∀ W, (Op.stringOp .add a1 ⟨#[58, 32]⟩).run Tryd.prog W = .ok (.string a3) W := fun W => by rw [e3]; exact run_string_add_sum W _ _ (by rw [show (⟨#[58, 32]⟩ : ByteArray).size = 2 from rfl]; omega)
  obtain ⟨a4, e4⟩ : ∃ a, a = a3 ++ T := ⟨_, rfl⟩
  have q4 : ∀ W, (Op.stringOp .add a3 T).run Tryd.prog W = .ok (.string a4) W := fun W => by rw [e4]; exact run_string_add_sum W _ _ (by omega)
  rw [← e1, ← e3, ← e4]
  clear e1 e3 e4 y1 y3 z2 z3
  go_enter Tryd.func31, Tryd.ntmps31
  go_wp2_with fail
  go_region_held3 (fun w' => w'.cell? ⟨b, 0, none⟩ = some (.int .i64 l) ∧ w'.cell? ⟨b, 1, none⟩ = some e) (simp [*, go_sem])
    (first
      | (go_at_call 44; refine (IT _ (Below.refl _ _).drew).mono ?_; rintro x w2 ⟨rfl, hb2⟩; have B2 : Hid (Below w.heap.size w w2) := (Below.refl _ _).drew.trans hb2; clear hb2; have u0 := (B2.out.cell (p := ⟨b, 0, none⟩) HBL.out).trans c0; have u1 := (B2.out.cell (p := ⟨b, 1, none⟩) HBL.out).trans c1)
      | (go_at_call 51; refine (IH _ B2.out).mono ?_; rintro x w3 ⟨rfl, hb3⟩; have B3 : Hid (Below w.heap.size w w3) := B2.out.trans (hb3.mono B2.out.size); clear hb3; have v0 := (B3.out.cell (p := ⟨b, 0, none⟩) HBL.out).trans c0; have v1 := (B3.out.cell (p := ⟨b, 1, none⟩) HBL.out).trans c1))
  go_wp2
  go_ret
  exact ⟨rfl, B3.out⟩

theorem methodErrorN (v : Value) (w : World) : (Go.method 263 32 v "Error").run Tryd.prog w = .ok (19, v) w := by kernel_rfl
theorem methodErrorF (v : Value) (w : World) : (Go.method 263 54 v "Error").run Tryd.prog w = .ok (29, v) w := by kernel_rfl
theorem methodErrorP (v : Value) (w : World) : (Go.method 263 55 v "Error").run Tryd.prog w = .ok (31, v) w := by kernel_rfl

set_option maxRecDepth 100000 in
set_option maxHeartbeats 2000000 in
/-- textOf, by what the error's own call answers. -/
theorem textOf_N {v : Value} {T : ByteArray} {w : World}
    (C : Calls Tryd.prog 19 #[v] w fun x w' => x = .returned (.string T) ∧ Below w.heap.size w w') :
    Calls Tryd.prog 51 #[.iface 32 v] w fun x w' => x = .returned (.string T) ∧ Below w.heap.size w w' := by
  have hmf : ∀ (fn : Fn) (first cap : Array Value) (w : World), (Instr.makeFunc fn first cap).run Tryd.prog w = .ok (.func fn first cap) w := fun _ _ _ _ => rfl
  have m := methodErrorN
  go_enter_defers Tryd.func51, Tryd.ntmps51
  go_wp2_with fail
  refine C.mono ?_
  rintro e w1 ⟨rfl, hb1⟩
  go_wp2
  refine leaves_cons (f := 64) (args := #[]) (by simp) (by simp [go_sem]) ?_
  refine (rec_idle _).mono ?_
  rintro e u' w'' ⟨rfl, rfl, rfl⟩
  exact ⟨_, results_tmp rfl _ _ _, rfl, hb1⟩

set_option maxRecDepth 100000 in
set_option maxHeartbeats 2000000 in
/-- textOf, by what the error's own call answers. -/
theorem textOf_F {v : Value} {T : ByteArray} {w : World}
    (C : Calls Tryd.prog 29 #[v] w fun x w' => x = .returned (.string T) ∧ Below w.heap.size w w') :
    Calls Tryd.prog 51 #[.iface 54 v] w fun x w' => x = .returned (.string T) ∧ Below w.heap.size w w' := by
  have hmf : ∀ (fn : Fn) (first cap : Array Value) (w : World), (Instr.makeFunc fn first cap).run Tryd.prog w = .ok (.func fn first cap) w := fun _ _ _ _ => rfl
  have m := methodErrorF
  go_enter_defers Tryd.func51, Tryd.ntmps51
  go_wp2_with fail
  refine C.mono ?_
  rintro e w1 ⟨rfl, hb1⟩
  go_wp2
  refine leaves_cons (f := 64) (args := #[]) (by simp) (by simp [go_sem]) ?_
  refine (rec_idle _).mono ?_
  rintro e u' w'' ⟨rfl, rfl, rfl⟩
  exact ⟨_, results_tmp rfl _ _ _, rfl, hb1⟩

set_option maxRecDepth 100000 in
set_option maxHeartbeats 2000000 in
/-- textOf, by what the error's own call answers. -/
theorem textOf_P {v : Value} {T : ByteArray} {w : World}
    (C : Calls Tryd.prog 31 #[v] w fun x w' => x = .returned (.string T) ∧ Below w.heap.size w w') :
    Calls Tryd.prog 51 #[.iface 55 v] w fun x w' => x = .returned (.string T) ∧ Below w.heap.size w w' := by
  have hmf : ∀ (fn : Fn) (first cap : Array Value) (w : World), (Instr.makeFunc fn first cap).run Tryd.prog w = .ok (.func fn first cap) w := fun _ _ _ _ => rfl
  have m := methodErrorP
  go_enter_defers Tryd.func51, Tryd.ntmps51
  go_wp2_with fail
  refine C.mono ?_
  rintro e w1 ⟨rfl, hb1⟩
  go_wp2
  refine leaves_cons (f := 64) (args := #[]) (by simp) (by simp [go_sem]) ?_
  refine (rec_idle _).mono ?_
  rintro e u' w'' ⟨rfl, rfl, rfl⟩
  exact ⟨_, results_tmp rfl _ _ _, rfl, hb1⟩

/-- The lines are ints. -/
def Lines : List Lk → Prop
  | [] => True
  | .inl (_, _) :: ls => Lines ls
  | .inr l :: ls => (-9223372036854775808 ≤ l ∧ l ≤ 9223372036854775807) ∧ Lines ls

/-- What a row of links tells, by textOf. -/
theorem textOf_ch {n : Int} (h0 : -9223372036854775808 ≤ n) (h1 : n ≤ 9223372036854775807) : ∀ {ls : List Lk} {v : Value} {w : World}, Ch w ls n v → Lines ls → PowB w.heap.size w → (tx ls n).size ≤ 1000000000 →
    Calls Tryd.prog 51 #[v] w fun x w' => x = .returned (.string (tx ls n)) ∧ Below w.heap.size w w'
  | [], _, w, h, _, hP, _ => by
    have h' : _ = _ := h
    subst h'
    exact textOf_N (errno_text h0 h1 w hP)
  | .inl (c, t) :: ls, _, w, ⟨b, e, hv, hh, hc⟩, hl, hP, hz => by
    subst hv
    have hz' : (tx ls n).size ≤ 1000000000 := by
      unfold tx at hz
      rw [ByteArray.size_append] at hz
      omega
    exact textOf_F (fault_text hh hz fun W hb => textOf_ch h0 h1 (hc.below hb (Nat.le_refl _)) hl (hP.step hb) hz')
  | .inr l :: ls, _, w, ⟨b, e, hv, hh, hc⟩, hl, hP, hz => by
    subst hv
    have hz' : (tx ls n).size ≤ 1000000000 := by
      unfold tx at hz
      rw [ByteArray.size_append] at hz
      omega
    exact textOf_P (place_text hh hl.1.1 hl.1.2 hP hz fun W hb => textOf_ch h0 h1 (hc.below hb (Nat.le_refl _)) hl.2 (hP.step hb) hz')
end Go.Proofs.YtelobjhmbabiaaaDoor
