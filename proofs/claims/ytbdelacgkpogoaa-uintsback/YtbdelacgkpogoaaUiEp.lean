/-
  What is wrapped is an error: strings.Clone, fault's Wrap (where nothing asks what it holds).
-/
import Derived.Test.YtbdelacgkpogoaaUiG
namespace Go.Proofs.Ytbdelacgkpogoaa
open Go.RowKit

theorem clone_any (s : ByteArray) (hs : s.size ≤ 281474976710656) (w : World) :
    Calls Try.prog 17 #[.string s] w fun e w' => e = .returned (.string s) ∧ Below w.heap.size w w' := by
  have I := fun W => cloneLite_any s hs W
  go_enter Try.func17, Try.ntmps17
  go_wp2_with fail
  refine (I _).mono ?_
  rintro e w1 ⟨rfl, h1⟩
  go_wp2
  go_ret
  exact ⟨rfl, h1⟩
set_option maxRecDepth 100000 in
theorem wrap_nil (c t : ByteArray) (w : World) : Calls Try.prog 10 #[.string c, .string t, .nilIface] w fun e w' => e = .returned .nilIface ∧ w' = w := by
  go_enter Try.func10, Try.ntmps10
  go_wp2
  go_ret
  exact ⟨rfl, rfl⟩
/-- An error. -/
def Wr (_w : World) (_c _t : ByteArray) (_n : Int) (v : Value) : Prop := ∃ T x, v = .iface T x
theorem Wr.below {w w' : World} {B : Nat} {c t : ByteArray} {n : Int} {v : Value} (h : Wr w c t n v) (_hb : Below B w w') (_hB : w.heap.size ≤ B) : Wr w' c t n v := h
theorem Wr.iface {w : World} {c t : ByteArray} {n : Int} {v : Value} (h : Wr w c t n v) : ∃ T x, v = .iface T x := h
set_option maxRecDepth 100000 in
set_option maxHeartbeats 2000000 in
theorem wrap_err {c t : ByteArray} (hc : c.size ≤ 281474976710656) (ht : t.size ≤ 281474976710656) (n : Int) (w : World) :
    Calls Try.prog 10 #[.string c, .string t, .iface 34 (.int .i64 n)] w fun x w' => ∃ v', x = .returned v' ∧ Wr w' c t n v' ∧ Below w.heap.size w w' := by
  have C1 := fun W => clone_any c hc W
  have C2 := fun W => clone_any t ht W
  clear hc ht
  go_enter Try.func10, Try.ntmps10
  go_wp2_with fail
  refine (C1 _).mono ?_
  rintro x w1 ⟨rfl, b1⟩
  have B1 : Hid (Below w.heap.size w w1) := b1
  clear b1
  go_wp2_with fail
  refine (C2 _).mono ?_
  rintro x w2 ⟨rfl, b2⟩
  have B2 : Hid (Below w.heap.size w w2) := B1.out.trans (b2.mono B1.out.size)
  clear b2
  go_wp2
  go_ret
  exact ⟨_, rfl, ⟨_, _, rfl⟩, B2.out.alloc B2.out.size _⟩
end Go.Proofs.Ytbdelacgkpogoaa
