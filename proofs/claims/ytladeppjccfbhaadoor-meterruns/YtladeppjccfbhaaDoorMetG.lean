/-
  The document's Text; a meter's Add; an act told to a meter that there is.
-/
import Derived.Test.YtladeppjccfbhaaDoorMetF
import Derived.Deep.DeepCutAuto
namespace Go.Proofs.YtladeppjccfbhaaDoor
open Go.RowKit

theorem digits_int {n : Int} (h0 : 0 ≤ n) (h1 : n ≤ 9223372036854775807) (W : World) : Calls Tryd.prog 72 #[.int .i64 n] W fun x w' => x = .returned (.string (itB n)) ∧ Below W.heap.size W w' := by
  obtain ⟨k, rfl⟩ : ∃ k : Nat, n = (k : Int) := ⟨n.toNat, by omega⟩
  exact digits_any k (by omega) W

set_option maxRecDepth 100000 in
set_option maxHeartbeats 1000000 in
theorem rtext_any {l p e t s : Int} (h : TI l p e t s) (w : World) :
    Calls Tryd.prog 36 #[tV l p e t s] w fun x w' => x = .returned (.string (txt itB l p e t s)) ∧ Below w.heap.size w w' := by
  have l1 : l ≤ 9223372036854775807 := Int.le_trans h.lp h.p1
  have p0 : 0 ≤ p := Int.le_trans h.l0 h.lp
  have I0 := fun W => digits_int h.l0 l1 W
  have I1 := fun W => digits_int p0 h.p1 W
  have I2 := fun W => digits_int h.e0 h.e1 W
  have I3 := fun W => digits_int h.t0 h.t1 W
  have I4 := fun W => digits_int h.s0 h.s1 W
  have hSl := itB_size h.l0 l1
  have hSp := itB_size p0 h.p1
  have hSe := itB_size h.e0 h.e1
  have hSt := itB_size h.t0 h.t1
  have hSs := itB_size h.s0 h.s1
  clear h l1 p0
  generalize itB = S at *
  unfold txt
  obtain ⟨a1, e1⟩ : ∃ a, a = (⟨#[108, 105, 118, 101, 32]⟩ : ByteArray) ++ S l := ⟨_, rfl⟩
  have z1 : a1.size ≤ 1005 := by rw [e1, ByteArray.size_append, show (⟨#[108, 105, 118, 101, 32]⟩ : ByteArray).size = 5 from rfl]; omega
  have q1 : ∀ W, (Op.stringOp .add ⟨#[108, 105, 118, 101, 32]⟩ (S l)).run Tryd.prog W = .ok (.string a1) W := fun W => by rw [e1]; exact run_string_add_sum W _ _ (by rw [show (⟨#[108, 105, 118, 101, 32]⟩ : ByteArray).size = 5 from rfl]; omega)
  obtain ⟨a2, e2⟩ : ∃ a, a = a1 ++ (⟨#[32, 112, 101, 97, 107, 32]⟩ : ByteArray) := ⟨_, rfl⟩
  have z2 : a2.size ≤ 1015 := by rw [e2, ByteArray.size_append, show (⟨#[32, 112, 101, 97, 107, 32]⟩ : ByteArray).size = 6 from rfl]; omega
  have q2 : ∀ W, (Op.stringOp .add a1 ⟨#[32, 112, 101, 97, 107, 32]⟩).run Tryd.prog W = .ok (.string a2) W := fun W => by rw [e2]; exact run_string_add_sum W _ _ (by rw [show (⟨#[32, 112, 101, 97, 107, 32]⟩ : ByteArray).size = 6 from rfl]; omega)
  obtain ⟨a3, e3⟩ : ∃ a, a = a2 ++ S p := ⟨_, rfl⟩
  have z3 : a3.size ≤ 2015 := by rw [e3, ByteArray.size_append]; omega
  have q3 : ∀ W, (Op.stringOp .add a2 (S p)).run Tryd.prog W = .ok (.string a3) W := fun W => by rw [e3]; exact run_string_add_sum W _ _ (by omega)
  obtain ⟨a4, e4⟩ : ∃ a, a = a3 ++ (⟨#[32, 101, 120, 97, 99, 116, 32]⟩ : ByteArray) := ⟨_, rfl⟩
  have z4 : a4.size ≤ 2025 := by rw [e4, ByteArray.size_append, show (⟨#[32, 101, 120, 97, 99, 116, 32]⟩ : ByteArray).size = 7 from rfl]; omega
  have q4 : ∀ W, (Op.stringOp .add a3 ⟨#[32, 101, 120, 97, 99, 116, 32]⟩).run Tryd.prog W = .ok (.string a4) W := fun W => by rw [e4]; exact run_string_add_sum W _ _ (by rw [show (⟨#[32, 101, 120, 97, 99, 116, 32]⟩ : ByteArray).size = 7 from rfl]; omega)
  obtain ⟨a5, e5⟩ : ∃ a, a = a4 ++ S e := ⟨_, rfl⟩
  have z5 : a5.size ≤ 3025 := by rw [e5, ByteArray.size_append]; omega
  have q5 : ∀ W, (Op.stringOp .add a4 (S e)).run Tryd.prog W = .ok (.string a5) W := fun W => by rw [e5]; exact run_string_add_sum W _ _ (by omega)
  obtain ⟨a6, e6⟩ : ∃ a, a = a5 ++ (⟨#[32, 116, 97, 98, 108, 101, 32]⟩ : ByteArray) := ⟨_, rfl⟩
  have z6 : a6.size ≤ 3035 := by rw [e6, ByteArray.size_append, show (⟨#[32, 116, 97, 98, 108, 101, 32]⟩ : ByteArray).size = 7 from rfl]; omega
  have q6 : ∀ W, (Op.stringOp .add a5 ⟨#[32, 116, 97, 98, 108, 101, 32]⟩).run Tryd.prog W = .ok (.string a6) W := fun W => by rw [e6]; exact run_string_add_sum W _ _ (by rw [show (⟨#[32, 116, 97, 98, 108, 101, 32]⟩ : ByteArray).size = 7 from rfl]; omega)
  obtain ⟨a7, e7⟩ : ∃ a, a = a6 ++ S t := ⟨_, rfl⟩
  have z7 : a7.size ≤ 4035 := by rw [e7, ByteArray.size_append]; omega
  have q7 : ∀ W, (Op.stringOp .add a6 (S t)).run Tryd.prog W = .ok (.string a7) W := fun W => by rw [e7]; exact run_string_add_sum W _ _ (by omega)
  obtain ⟨a8, e8⟩ : ∃ a, a = a7 ++ (⟨#[32, 115, 108, 111, 119, 32]⟩ : ByteArray) := ⟨_, rfl⟩
  have z8 : a8.size ≤ 4045 := by rw [e8, ByteArray.size_append, show (⟨#[32, 115, 108, 111, 119, 32]⟩ : ByteArray).size = 6 from rfl]; omega
  have q8 : ∀ W, (Op.stringOp .add a7 ⟨#[32, 115, 108, 111, 119, 32]⟩).run Tryd.prog W = .ok (.string a8) W := fun W => by rw [e8]; exact run_string_add_sum W _ _ (by rw [show (⟨#[32, 115, 108, 111, 119, 32]⟩ : ByteArray).size = 6 from rfl]; omega)
  obtain ⟨a9, e9⟩ : ∃ a, a = a8 ++ S s := ⟨_, rfl⟩
  have z9 : a9.size ≤ 5045 := by rw [e9, ByteArray.size_append]; omega
  have q9 : ∀ W, (Op.stringOp .add a8 (S s)).run Tryd.prog W = .ok (.string a9) W := fun W => by rw [e9]; exact run_string_add_sum W _ _ (by omega)
  rw [← e1, ← e2, ← e3, ← e4, ← e5, ← e6, ← e7, ← e8, ← e9]
  clear e1 z1 e2 z2 e3 z3 e4 z4 e5 z5 e6 z6 e7 z7 e8 z8 e9 z9 hSl hSp hSe hSt hSs
  unfold tV
  go_enter Tryd.func36, Tryd.ntmps36
  go_wp2
  have M1 : Hid (MS (w.alloc (.cells #[.int .i64 l, .int .i64 p, .int .i64 e, .int .i64 t, .int .i64 s] 56)) w.heap.size l p e t s) := ⟨by simp, by simp, by simp, by simp, by simp, by simp, fun o => by simp⟩
  have W1 : Hid (Below w.heap.size w (w.alloc (.cells #[.int .i64 l, .int .i64 p, .int .i64 e, .int .i64 t, .int .i64 s] 56))) := (Below.refl _ _).alloc (Nat.le_refl _) _
  go_region_held3 (fun w' => w'.cell? ⟨w.heap.size, 0, none⟩ = some (.int .i64 l) ∧ w'.cell? ⟨w.heap.size, 1, none⟩ = some (.int .i64 p) ∧ w'.cell? ⟨w.heap.size, 2, none⟩ = some (.int .i64 e) ∧ w'.cell? ⟨w.heap.size, 3, none⟩ = some (.int .i64 t) ∧ w'.cell? ⟨w.heap.size, 4, none⟩ = some (.int .i64 s)) (simp [*, go_sem])
    (first
      | (go_at_call_of 72 (Value.int .i64 l); refine (I0 _).mono ?_; rintro x w2 ⟨rfl, hb2⟩; have M2 : Hid (MS w2 w.heap.size l p e t s) := (M1.out.step (Below.refl _ _).drew).step hb2; have W2 : Hid (Below w.heap.size w w2) := (W1.out.drew).trans (hb2.mono (W1.out.drew).size); clear hb2; obtain ⟨_, y00, y01, y02, y03, y04, _⟩ := M2.out)
      | (go_at_call_of 72 (Value.int .i64 p); refine (I1 _).mono ?_; rintro x w3 ⟨rfl, hb3⟩; have M3 : Hid (MS w3 w.heap.size l p e t s) := M2.out.step hb3; have W3 : Hid (Below w.heap.size w w3) := W2.out.trans (hb3.mono W2.out.size); clear hb3; obtain ⟨_, y10, y11, y12, y13, y14, _⟩ := M3.out)
      | (go_at_call_of 72 (Value.int .i64 e); refine (I2 _).mono ?_; rintro x w4 ⟨rfl, hb4⟩; have M4 : Hid (MS w4 w.heap.size l p e t s) := M3.out.step hb4; have W4 : Hid (Below w.heap.size w w4) := W3.out.trans (hb4.mono W3.out.size); clear hb4; obtain ⟨_, y20, y21, y22, y23, y24, _⟩ := M4.out)
      | (go_at_call_of 72 (Value.int .i64 t); refine (I3 _).mono ?_; rintro x w5 ⟨rfl, hb5⟩; have M5 : Hid (MS w5 w.heap.size l p e t s) := M4.out.step hb5; have W5 : Hid (Below w.heap.size w w5) := W4.out.trans (hb5.mono W4.out.size); clear hb5; obtain ⟨_, y30, y31, y32, y33, y34, _⟩ := M5.out)
      | (go_at_call_of 72 (Value.int .i64 s); refine (I4 _).mono ?_; rintro x w6 ⟨rfl, hb6⟩; have M6 : Hid (MS w6 w.heap.size l p e t s) := M5.out.step hb6; have W6 : Hid (Below w.heap.size w w6) := W5.out.trans (hb6.mono W5.out.size); clear hb6; obtain ⟨_, y40, y41, y42, y43, y44, _⟩ := M6.out))
  go_wp2
  go_ret
  exact ⟨rfl, W6.out⟩

set_option maxRecDepth 100000 in
set_option maxHeartbeats 1000000 in
theorem add_at {b : Nat} {l p e t s l2 p2 e2 t2 s2 : Int} (h : TI l p e t s) (hl : l2 ≤ 9223372036854775807) (he : e2 ≤ 9223372036854775807) (ht : t2 ≤ 9223372036854775807) (hs : s2 ≤ 9223372036854775807) (w : World) (m : MS w b l p e t s) :
    Calls Tryd.prog 69 #[mV b, tV l2 p2 e2 t2 s2] w fun x w' => x = .returned (.tuple #[]) ∧ But b w w' ∧ MS w' b (moreI l l2) (mx3 p p2 (moreI l l2)) (moreI e e2) (moreI t t2) (moreI s s2) := by
  have F0 := fun W => more_any h.l0 hl W
  have F1 := fun W => more_any h.e0 he W
  have F2 := fun W => more_any h.t0 ht W
  have F3 := fun W => more_any h.s0 hs W
  clear h hl he ht hs
  generalize moreI l l2 = y0 at *
  generalize moreI e e2 = y1 at *
  generalize moreI t t2 = y2 at *
  generalize moreI s s2 = y3 at *
  have NB : Hid (w.heap.size ≠ b) := by have := m.lt; show w.heap.size ≠ b; omega
  have X0 : Hid (MS (w.alloc (.cells #[.int .i64 l2, .int .i64 p2, .int .i64 e2, .int .i64 t2, .int .i64 s2] 60)) b l p e t s) := m.step ((Below.refl _ _).alloc (Nat.le_refl _) _)
  have A0 : Hid (MS (w.alloc (.cells #[.int .i64 l2, .int .i64 p2, .int .i64 e2, .int .i64 t2, .int .i64 s2] 60)) w.heap.size l2 p2 e2 t2 s2) := MS.new w l2 p2 e2 t2 s2 60
  have B0 : Hid (But b w (w.alloc (.cells #[.int .i64 l2, .int .i64 p2, .int .i64 e2, .int .i64 t2, .int .i64 s2] 60))) := But.of ((Below.refl _ _).alloc (Nat.le_refl _) _)
  clear m
  unfold mV tV at *
  obtain ⟨_, xm0, xm1, xm2, xm3, xm4, xf⟩ := X0.out
  obtain ⟨_, xa0, xa1, xa2, xa3, xa4, _⟩ := A0.out
  go_enter Tryd.func69, Tryd.ntmps69
  go_upto_region 2 with fail
  go_cut [] (fun wx => MS wx b y0 p e t s ∧ MS wx w.heap.size l2 p2 e2 t2 s2 ∧ But b w wx)
  case first =>
    go_region_with (first | (go_at_call 93; refine (F0 _).mono ?_; rintro x w1 ⟨rfl, rfl⟩))
    all_goals
      go_wp2_with fail
      go_meet
      exact ⟨(X0.out.set0 y0).step (Below.refl _ _).drew, (A0.out.but (But.set b _ _ _) NB.out).step (Below.refl _ _).drew, (B0.out.trans (But.set b _ _ _)).trans (But.of (Below.refl _ _).drew)⟩
  case rest =>
    clear xm0 xm1 xm2 xm3 xm4 xf xa0 xa1 xa2 xa3 xa4
    obtain ⟨hx, ha, hb⟩ := hcut
    have X1 : Hid (MS wc b y0 p e t s) := hx
    have A1 : Hid (MS wc w.heap.size l2 p2 e2 t2 s2) := ha
    have B1 : Hid (But b w wc) := hb
    clear hx ha hb
    obtain ⟨_, xm0, xm1, xm2, xm3, xm4, xf⟩ := X1.out
    obtain ⟨_, xa0, xa1, xa2, xa3, xa4, _⟩ := A1.out
    go_upto_region 3 with fail
    go_cut [] (fun wx => MS wx b y0 p y1 t s ∧ MS wx w.heap.size l2 p2 e2 t2 s2 ∧ But b w wx)
    case first =>
      go_region_with (first | (go_at_call 93; refine (F1 _).mono ?_; rintro x w1 ⟨rfl, rfl⟩))
      all_goals
        go_wp2_with fail
        go_meet
        exact ⟨(X1.out.set2 y1).step (Below.refl _ _).drew, (A1.out.but (But.set b _ _ _) NB.out).step (Below.refl _ _).drew, (B1.out.trans (But.set b _ _ _)).trans (But.of (Below.refl _ _).drew)⟩
    case rest =>
      clear xm0 xm1 xm2 xm3 xm4 xf xa0 xa1 xa2 xa3 xa4
      obtain ⟨hx, ha, hb⟩ := hcut
      have X2 : Hid (MS wc b y0 p y1 t s) := hx
      have A2 : Hid (MS wc w.heap.size l2 p2 e2 t2 s2) := ha
      have B2 : Hid (But b w wc) := hb
      clear hx ha hb
      obtain ⟨_, xm0, xm1, xm2, xm3, xm4, xf⟩ := X2.out
      obtain ⟨_, xa0, xa1, xa2, xa3, xa4, _⟩ := A2.out
      go_upto_region 4 with fail
      go_cut [] (fun wx => MS wx b y0 p y1 y2 s ∧ MS wx w.heap.size l2 p2 e2 t2 s2 ∧ But b w wx)
      case first =>
        go_region_with (first | (go_at_call 93; refine (F2 _).mono ?_; rintro x w1 ⟨rfl, rfl⟩))
        all_goals
          go_wp2_with fail
          go_meet
          exact ⟨(X2.out.set3 y2).step (Below.refl _ _).drew, (A2.out.but (But.set b _ _ _) NB.out).step (Below.refl _ _).drew, (B2.out.trans (But.set b _ _ _)).trans (But.of (Below.refl _ _).drew)⟩
      case rest =>
        clear xm0 xm1 xm2 xm3 xm4 xf xa0 xa1 xa2 xa3 xa4
        obtain ⟨hx, ha, hb⟩ := hcut
        have X3 : Hid (MS wc b y0 p y1 y2 s) := hx
        have A3 : Hid (MS wc w.heap.size l2 p2 e2 t2 s2) := ha
        have B3 : Hid (But b w wc) := hb
        clear hx ha hb
        obtain ⟨_, xm0, xm1, xm2, xm3, xm4, xf⟩ := X3.out
        obtain ⟨_, xa0, xa1, xa2, xa3, xa4, _⟩ := A3.out
        go_upto_region 5 with fail
        go_cut [] (fun wx => MS wx b y0 p y1 y2 y3 ∧ MS wx w.heap.size l2 p2 e2 t2 s2 ∧ But b w wx)
        case first =>
          go_region_with (first | (go_at_call 93; refine (F3 _).mono ?_; rintro x w1 ⟨rfl, rfl⟩))
          all_goals
            go_wp2_with fail
            go_meet
            exact ⟨(X3.out.set4 y3).step (Below.refl _ _).drew, (A3.out.but (But.set b _ _ _) NB.out).step (Below.refl _ _).drew, (B3.out.trans (But.set b _ _ _)).trans (But.of (Below.refl _ _).drew)⟩
        case rest =>
          clear xm0 xm1 xm2 xm3 xm4 xf xa0 xa1 xa2 xa3 xa4
          obtain ⟨hx, ha, hb⟩ := hcut
          have X4 : Hid (MS wc b y0 p y1 y2 y3) := hx
          have A4 : Hid (MS wc w.heap.size l2 p2 e2 t2 s2) := ha
          have B4 : Hid (But b w wc) := hb
          clear hx ha hb
          obtain ⟨_, xm0, xm1, xm2, xm3, xm4, xf⟩ := X4.out
          obtain ⟨_, xa0, xa1, xa2, xa3, xa4, _⟩ := A4.out
          go_wp2_with fail
          refine (raise_at (b := b) p2 _ X4.out).mono ?_
          rintro x w2 ⟨rfl, b2, m2⟩
          go_wp2
          exact bodyPost_end (v := .tuple #[]) (results_none Tryd.results69 _ _ _) rfl ⟨rfl, B4.out.trans b2, m2⟩

end Go.Proofs.YtladeppjccfbhaaDoor
