/-
  The law FaultTells: the walk.
-/
import Derived.Test.YtelobjhmbabiaaaDoorFtJ
import Derived.Test.YtelobjhmbabiaaaDoorFtR
import Derived.Test.YtelobjhmbabiaaaDoorFtD
namespace Go.Proofs.YtelobjhmbabiaaaDoor
open Go.RowKit

theorem row_place {p : Nat → Bool} {cl tx' : Nat → ByteArray} {ln : Nat → Int} {k : Nat} (h : p k = true) : rowL p cl tx' ln (k + 1) = .inr (ln k) :: rowL p cl tx' ln k := by
  show lkAt p cl tx' ln k :: _ = _
  unfold lkAt
  rw [h]
  rfl
theorem row_fault {p : Nat → Bool} {cl tx' : Nat → ByteArray} {ln : Nat → Int} {k : Nat} (h : p k = false) : rowL p cl tx' ln (k + 1) = .inl ((cl k), (tx' k)) :: rowL p cl tx' ln k := by
  show lkAt p cl tx' ln k :: _ = _
  unfold lkAt
  rw [h]
  rfl
theorem lines_row {w : World} {ao : Option Addr} {m c b o : Nat} {p : Nat → Bool} {cl tx' : Nat → ByteArray} {ln : Nat → Int} (S : SlL w ao m c b o p cl tx' ln) : ∀ k, k ≤ m → Lines (rowL p cl tx' ln k)
  | 0, _ => trivial
  | k + 1, h => by
    cases q : p k with
    | true => rw [row_place q]; exact ⟨S.lo k (by omega), lines_row S k (by omega)⟩
    | false => rw [row_fault q]; exact lines_row S k (by omega)
theorem ffst_row {w : World} {ao : Option Addr} {m c b o : Nat} {p : Nat → Bool} {cl tx' : Nat → ByteArray} {ln : Nat → Int} (S : SlL w ao m c b o p cl tx' ln) : ∀ k, k ≤ m → ∀ x y, ffst (rowL p cl tx' ln k) = some (x, y) → x.size ≤ 281474976710656 ∧ y.size ≤ 281474976710656
  | 0, _ => fun x y h => by cases h
  | k + 1, hk => fun x y h => by
    cases q : p k with
    | true => rw [row_place q] at h; exact ffst_row S k (by omega) x y h
    | false =>
      rw [row_fault q] at h
      have e := Option.some.inj h
      rw [← (Prod.mk.inj e).1, ← (Prod.mk.inj e).2]
      exact S.sz k (by omega)
theorem str_refl (a : ByteArray) : (a.toList == a.toList) = true := by simp

set_option maxRecDepth 100000 in
set_option maxHeartbeats 8000000 in
theorem tells_law {w : World} {ao : Option Addr} {m c b o : Nat} {p : Nat → Bool} {cl tx' : Nat → ByteArray} {ln : Nat → Int} (S : SlL w ao m c b o p cl tx' ln) (n : Int) (h0 : -9223372036854775808 ≤ n) (h1 : n ≤ 9223372036854775807)
    (hz : ∀ k, k ≤ min m 60 → (tx (rowL p cl tx' ln k) n).size ≤ 1000000000) (ht : ∀ k, k < m → (tx' k).size ≤ 35000000000000) (hE : ErrT w) (hP : PowB w.heap.size w) :
    Calls Tryd.prog 5 #[.int .i64 n, .slice ao m c] w fun x w' => x = .returned (.bool true) ∧ Below w.heap.size w w' := by
  have L1 := laid_ch S n
  have T0 := fun W (h : PowB W.heap.size W) => errno_text h0 h1 W h
  have HN : Hid (-9223372036854775808 ≤ n ∧ n ≤ 9223372036854775807) := ⟨h0, h1⟩
  have S1 := fun W (h : PowB W.heap.size W) => sure_any W h
  have HS : Hid (SlL w ao m c b o p cl tx' ln) := S
  have HZ : Hid (∀ k, k ≤ min m 60 → (tx (rowL p cl tx' ln k) n).size ≤ 1000000000) := hz
  have HQ : Hid (∀ k, k < m → (tx' k).size ≤ 35000000000000) := ht
  have HE : Hid (ErrT w) := hE
  have HP : Hid (PowB w.heap.size w) := hP
  have hm1 : m ≤ 9223372036854775807 := by have a := S.le; have b := S.cap; unfold maxLen at b; omega
  clear S hE hP hz ht h0 h1
  go_enter Tryd.func5, Tryd.ntmps5
  go_wp2_with fail
  refine L1.mono ?_
  rintro x w1 ⟨v, rfl, h1, b1⟩
  obtain ⟨TT, yy, rfl⟩ := h1.iface
  have H1 : Hid (Ch w1 (rowL p cl tx' ln (min m 60)) n (.iface TT yy) ∧ Below w.heap.size w w1) := ⟨h1, b1⟩
  clear h1 b1 L1
  go_wp2_with fail
  refine (T0 _ (HP.out.step H1.out.2)).mono ?_
  rintro x w2 ⟨rfl, b2⟩
  have H2 : Hid (Ch w2 (rowL p cl tx' ln (min m 60)) n (.iface TT yy) ∧ Below w.heap.size w w2) := ⟨H1.out.1.below b2 (Nat.le_refl _), H1.out.2.trans (b2.mono H1.out.2.size)⟩
  clear b2 H1 T0
  go_wp2
  go_loopw [6, 7, 8, 9, 10, 11, 12] (fun wv cv tv lv fv pv i wr => ∃ k : Nat, i = .int .i64 (k : Int) ∧ k ≤ min m 60 ∧ wv = .string (tx (rowL p cl tx' ln k) n) ∧ cv = .string (callR (rowL p cl tx' ln k)).1 ∧ tv = .string (textR (rowL p cl tx' ln k)).1 ∧ lv = .int .i64 (lineR (rowL p cl tx' ln k)).1 ∧ fv = .bool (callR (rowL p cl tx' ln k)).2 ∧ pv = .bool (lineR (rowL p cl tx' ln k)).2 ∧ Hid (Below w2.heap.size w2 wr)) (fun _ _ _ _ _ _ i _ => 60 - (intOf i).toNat)
  case atStart => exact ⟨0, rfl, by omega, rfl, rfl, rfl, rfl, rfl, rfl, Below.refl _ _⟩
  case round =>
    obtain ⟨k, rfl, hk, rfl, rfl, rfl, rfl, rfl, rfl, HI⟩ := hrel
    have HB : Hid (Below w.heap.size w wr) := H2.out.2.trans (HI.out.mono H2.out.2.size)
    by_cases c1 : k < min m 60
    · have hkm : k < m := by omega
      obtain rfl := HS.out.addr (by omega)
      have S2 := HS.out.step HB.out
      have x0 := S2.cp k hkm
      have x1 := S2.cc k hkm
      have x2 := S2.ct k hkm
      have x3 := S2.cn k hkm
      have HBl : Hid (b < wr.heap.size) := S2.blk (by omega)
      have i0 : (0 : Int) ≤ (k : Int) := by omega
      have i1 : (k : Int) < (m : Int) := by omega
      have i2 : (k : Int) < 60 := by omega
      have z1 := HZ.out (k + 1) (by omega)
      clear S2 S1
      cases hp : p k with
      | true =>
        have HR : Hid (rowL p cl tx' ln (k + 1) = .inr (ln k) :: rowL p cl tx' ln k) := row_place hp
        rw [HR.out] at z1
        rw [hp] at x0
        have lo := HS.out.lo k hkm
        have DG := fun W => digits_any lo.1 lo.2 W
        obtain ⟨l, hl⟩ : ∃ l, ln k = l := ⟨_, rfl⟩
        rw [hl] at x3 HR DG z1
        obtain ⟨Q, hQ⟩ : ∃ Q, itB l = Q := ⟨_, rfl⟩
        obtain ⟨X, hX⟩ : ∃ X, tx (rowL p cl tx' ln k) n = X := ⟨_, rfl⟩
        have HT : Hid (tx (.inr l :: rowL p cl tx' ln k) n = (⟨#[108, 105, 110, 101, 32]⟩ : ByteArray) ++ Q ++ (⟨#[58, 32]⟩ : ByteArray) ++ X) := by show _ = _; rw [← hQ, ← hX]; rfl
        rw [HT.out] at z1
        simp only [ByteArray.size_append] at z1
        rw [hQ] at DG
        rw [hX]
        obtain ⟨a1, e1⟩ : ∃ a, a = (⟨#[108, 105, 110, 101, 32]⟩ : ByteArray) ++ Q := ⟨_, rfl⟩
        have q1 : ∀ W, (Op.stringOp .add ⟨#[108, 105, 110, 101, 32]⟩ Q).run Tryd.prog W = .ok (.string a1) W := fun W => by rw [e1]; exact run_string_add_sum W _ _ (by omega)
        have y1 : a1.size = (⟨#[108, 105, 110, 101, 32]⟩ : ByteArray).size + Q.size := by rw [e1, ByteArray.size_append]
        obtain ⟨a3, e3⟩ : ∃ a, a = a1 ++ (⟨#[58, 32]⟩ : ByteArray) := ⟨_, rfl⟩
        have q3 : ∀ W, (Op.stringOp .add a1 ⟨#[58, 32]⟩).run Tryd.prog W = .ok (.string a3) W := fun W => by rw [e3]; exact run_string_add_sum W _ _ (by omega)
        have y3 : a3.size = a1.size + (⟨#[58, 32]⟩ : ByteArray).size := by rw [e3, ByteArray.size_append]
        obtain ⟨a4, e4⟩ : ∃ a, a = a3 ++ X := ⟨_, rfl⟩
        have q4 : ∀ W, (Op.stringOp .add a3 X).run Tryd.prog W = .ok (.string a4) W := fun W => by rw [e4]; exact run_string_add_sum W _ _ (by omega)
        have HF : Hid (tx (rowL p cl tx' ln (k + 1)) n = a4) := by show _ = _; rw [HR.out, HT.out, e4, e3, e1]
        have HC : Hid (callR (rowL p cl tx' ln (k + 1)) = callR (rowL p cl tx' ln k) ∧ textR (rowL p cl tx' ln (k + 1)) = textR (rowL p cl tx' ln k) ∧ lineR (rowL p cl tx' ln (k + 1)) = (l, true)) := by rw [HR.out]; exact ⟨rfl, rfl, rfl⟩
        clear e1 e3 e4 y1 y3 z1 hQ hX hl hp x1 x2 lo
        go_wp2_with fail
        refine (DG _).mono ?_
        rintro e w3 ⟨rfl, hw⟩
        subst hw
        go_wp2
        go_roundw
        case rel => exact ⟨k + 1, by go_num, by omega, by rw [HF.out], by rw [HC.out.1], by rw [HC.out.2.1], by rw [HC.out.2.2], by rw [HC.out.1], by rw [HC.out.2.2], HI⟩
        case measure => simp [intOf]; omega
      | false =>
        have HR : Hid (rowL p cl tx' ln (k + 1) = .inl ((cl k), (tx' k)) :: rowL p cl tx' ln k) := row_fault hp
        rw [HR.out] at z1
        rw [hp] at x0
        have RQ : ∀ W, Calls Tryd.prog 11 #[.string (tx' k)] W fun e w' => e = .returned (.string (qB (tx' k))) ∧ Below W.heap.size W w' := fun W => rquote_any (tx' k) (HQ.out k hkm) W
        obtain ⟨ck, hck⟩ : ∃ l, cl k = l := ⟨_, rfl⟩
        obtain ⟨tk, htk⟩ : ∃ l, tx' k = l := ⟨_, rfl⟩
        rw [hck] at x1
        rw [htk] at x2 RQ
        rw [hck, htk] at HR z1
        obtain ⟨Q, hQ⟩ : ∃ Q, qB tk = Q := ⟨_, rfl⟩
        obtain ⟨X, hX⟩ : ∃ X, tx (rowL p cl tx' ln k) n = X := ⟨_, rfl⟩
        have HT : Hid (tx (.inl (ck, tk) :: rowL p cl tx' ln k) n = ck ++ (⟨#[32]⟩ : ByteArray) ++ Q ++ (⟨#[58, 32]⟩ : ByteArray) ++ X) := by show _ = _; rw [← hQ, ← hX]; rfl
        rw [HT.out] at z1
        simp only [ByteArray.size_append] at z1
        rw [hQ] at RQ
        rw [hX]
        obtain ⟨a1, e1⟩ : ∃ a, a = ck ++ (⟨#[32]⟩ : ByteArray) := ⟨_, rfl⟩
        have q1 : ∀ W, (Op.stringOp .add ck ⟨#[32]⟩).run Tryd.prog W = .ok (.string a1) W := fun W => by rw [e1]; exact run_string_add_sum W _ _ (by omega)
        have y1 : a1.size = ck.size + (⟨#[32]⟩ : ByteArray).size := by rw [e1, ByteArray.size_append]
        obtain ⟨a2, e2⟩ : ∃ a, a = a1 ++ Q := ⟨_, rfl⟩
        have q2 : ∀ W, (Op.stringOp .add a1 Q).run Tryd.prog W = .ok (.string a2) W := fun W => by rw [e2]; exact run_string_add_sum W _ _ (by omega)
        have y2 : a2.size = a1.size + Q.size := by rw [e2, ByteArray.size_append]
        obtain ⟨a3, e3⟩ : ∃ a, a = a2 ++ (⟨#[58, 32]⟩ : ByteArray) := ⟨_, rfl⟩
        have q3 : ∀ W, (Op.stringOp .add a2 ⟨#[58, 32]⟩).run Tryd.prog W = .ok (.string a3) W := fun W => by rw [e3]; exact run_string_add_sum W _ _ (by omega)
        have y3 : a3.size = a2.size + (⟨#[58, 32]⟩ : ByteArray).size := by rw [e3, ByteArray.size_append]
        obtain ⟨a4, e4⟩ : ∃ a, a = a3 ++ X := ⟨_, rfl⟩
        have q4 : ∀ W, (Op.stringOp .add a3 X).run Tryd.prog W = .ok (.string a4) W := fun W => by rw [e4]; exact run_string_add_sum W _ _ (by omega)
        have HF : Hid (tx (rowL p cl tx' ln (k + 1)) n = a4) := by show _ = _; rw [HR.out, HT.out, e4, e3, e2, e1]
        have HC : Hid (callR (rowL p cl tx' ln (k + 1)) = (ck, true) ∧ textR (rowL p cl tx' ln (k + 1)) = (tk, true) ∧ lineR (rowL p cl tx' ln (k + 1)) = lineR (rowL p cl tx' ln k)) := by rw [HR.out]; exact ⟨rfl, rfl, rfl⟩
        clear e1 e2 e3 e4 y1 y2 y3 z1 hQ hX hck htk hp x3
        go_wp2_with fail
        go_region_held3 (fun w' => w'.cell? ⟨b, o + k * 4 + 1, none⟩ = some (.string ck) ∧ w'.cell? ⟨b, o + k * 4 + 2, none⟩ = some (.string tk)) (simp [*, go_sem])
          (first | (go_at_call 11; refine (RQ _).mono ?_; rintro e w3 ⟨rfl, b3⟩; have HI3 : Hid (Below w2.heap.size w2 w3) := (show Below w2.heap.size w2 w3 from (HI.out.drew).trans (b3.mono HI.out.drew.size)); have y1 : w3.cell? ⟨b, o + k * 4 + 1, none⟩ = some (.string ck) := (b3.cell (p := ⟨b, o + k * 4 + 1, none⟩) HBl.out).trans x1; have y2 : w3.cell? ⟨b, o + k * 4 + 2, none⟩ = some (.string tk) := (b3.cell (p := ⟨b, o + k * 4 + 2, none⟩) HBl.out).trans x2; clear b3))
        all_goals
          have HI4 : Hid (Below w2.heap.size w2 w3.drew) := HI3.out.drew
          go_wp2
          go_region_held3 (fun w' => w'.cell? ⟨b, o + k * 4 + 1, none⟩ = some (.string ck) ∧ w'.cell? ⟨b, o + k * 4 + 2, none⟩ = some (.string tk)) (simp [*, go_sem]) (fail)
          all_goals
            go_wp2
            go_roundw
            case rel => exact ⟨k + 1, by go_num, by omega, by rw [HF.out], by rw [HC.out.1], by rw [HC.out.2.1], by rw [HC.out.2.2], by rw [HC.out.1], by rw [HC.out.2.2], HI4⟩
            case measure => simp [intOf]; omega
    · obtain rfl : k = min m 60 := by omega
      have z1 := HZ.out (min m 60) (Nat.le_refl _)
      have li := lines_row HS.out (min m 60) (by omega)
      have fr := ffst_row HS.out (min m 60) (by omega)
      have hne : ¬ ((min m 60 : Nat) : Int) < (m : Int) ∨ ¬ ((min m 60 : Nat) : Int) < 60 := by omega
      have H3 : Hid (Ch wr (rowL p cl tx' ln (min m 60)) n (.iface TT yy)  ∧ True) := ⟨H2.out.1.below HI.out (Nat.le_refl _), trivial⟩
      have hsame : (textR (rowL p cl tx' ln (min m 60))).2 = (callR (rowL p cl tx' ln (min m 60))).2 := by
        unfold textR callR
        cases ffst (rowL p cl tx' ln (min m 60)) with
        | none => rfl
        | some a => rfl
      obtain ⟨kk, hkk⟩ : ∃ kk, min m 60 = kk := ⟨_, rfl⟩
      rw [hkk] at z1 li fr H3 hsame hne ⊢
      obtain ⟨RW, hRW⟩ : ∃ RW, rowL p cl tx' ln kk = RW := ⟨_, rfl⟩
      rw [hRW] at z1 li fr H3 hsame ⊢
      have C1 := fun W (h : Ch W RW n (.iface TT yy)) (g : ErrT W) => call_ch h g (fun c t e => (fr c t e).1)
      have X1 := fun W (h : Ch W RW n (.iface TT yy)) (g : ErrT W) => text_ch h g (fun c t e => (fr c t e).2)
      have O1 := fun W (h : Ch W RW n (.iface TT yy)) (g : ErrT W) => lineof_ch h g
      have TL := fun W (h : Ch W RW n (.iface TT yy)) (g : PowB W.heap.size W) => tells_ch HN.out.1 HN.out.2 h li g z1
      rw [hsame] at X1
      generalize tx RW n = X at *
      generalize (callR RW).1 = ca at *
      generalize (callR RW).2 = cb at *
      generalize (textR RW).1 = ta at *
      generalize (lineR RW).1 = la at *
      generalize (lineR RW).2 = lb at *
      have s1 := str_refl X
      have s2 := str_refl ca
      have s3 := str_refl ta
      have qb : ∀ W, (binOp .eql 4 (.bool cb) (.bool cb)).run Tryd.prog W = .ok (.bool true) W := fun W => by cases cb <;> rfl
      have qc : ∀ W, (binOp .eql 4 (.bool lb) (.bool lb)).run Tryd.prog W = .ok (.bool true) W := fun W => by cases lb <;> rfl
      clear fr li z1 hsame c1 hk hkk hRW
      by_cases c2 : (kk : Int) < (m : Int)
      · have c3 : ¬ (kk : Int) < 60 := by rcases hne with a | a; exact absurd c2 a; exact a
        clear hne
        go_wp2_with fail
        refine (C1 _ (H3.out.1) (HE.out.below HB.out HE.out.pos)).mono ?_
        rintro x w4 ⟨rfl, b4⟩
        have B4 : Hid (Ch w4 RW n (.iface TT yy) ∧ Below w.heap.size w w4) := ⟨H3.out.1.below b4 (Nat.le_refl _), HB.out.trans (b4.mono HB.out.size)⟩
        clear b4
        go_wp2_with fail
        refine (X1 _ (B4.out.1) (HE.out.below B4.out.2 HE.out.pos)).mono ?_
        rintro x w5 ⟨rfl, b5⟩
        have B5 : Hid (Ch w5 RW n (.iface TT yy) ∧ Below w.heap.size w w5) := ⟨B4.out.1.below b5 (Nat.le_refl _), B4.out.2.trans (b5.mono B4.out.2.size)⟩
        clear b5
        go_wp2_with fail
        refine (O1 _ (B5.out.1) (HE.out.below B5.out.2 HE.out.pos)).mono ?_
        rintro x w6 ⟨rfl, b6⟩
        have B6 : Hid (Ch w6 RW n (.iface TT yy) ∧ Below w.heap.size w w6) := ⟨B5.out.1.below b6 (Nat.le_refl _), B5.out.2.trans (b6.mono B5.out.2.size)⟩
        clear b6
        go_wp2_with fail
        refine (TL _ (B6.out.1) (HP.out.step B6.out.2)).mono ?_
        rintro x w7 ⟨rfl, b7⟩
        have B7 : Hid (Below w.heap.size w w7) := B6.out.2.trans (b7.mono B6.out.2.size)
        clear b7
        go_wp2_with fail
        refine (S1 _ (HP.out.step B7.out)).mono ?_
        rintro x w8 ⟨rfl, b8⟩
        have B8 : Hid (Below w.heap.size w w8) := B7.out.trans (b8.mono B7.out.size)
        clear b8
        go_wp2
        go_ret
        exact ⟨rfl, B8.out⟩
      · clear hne
        go_wp2_with fail
        refine (C1 _ (H3.out.1) (HE.out.below HB.out HE.out.pos)).mono ?_
        rintro x w4 ⟨rfl, b4⟩
        have B4 : Hid (Ch w4 RW n (.iface TT yy) ∧ Below w.heap.size w w4) := ⟨H3.out.1.below b4 (Nat.le_refl _), HB.out.trans (b4.mono HB.out.size)⟩
        clear b4
        go_wp2_with fail
        refine (X1 _ (B4.out.1) (HE.out.below B4.out.2 HE.out.pos)).mono ?_
        rintro x w5 ⟨rfl, b5⟩
        have B5 : Hid (Ch w5 RW n (.iface TT yy) ∧ Below w.heap.size w w5) := ⟨B4.out.1.below b5 (Nat.le_refl _), B4.out.2.trans (b5.mono B4.out.2.size)⟩
        clear b5
        go_wp2_with fail
        refine (O1 _ (B5.out.1) (HE.out.below B5.out.2 HE.out.pos)).mono ?_
        rintro x w6 ⟨rfl, b6⟩
        have B6 : Hid (Ch w6 RW n (.iface TT yy) ∧ Below w.heap.size w w6) := ⟨B5.out.1.below b6 (Nat.le_refl _), B5.out.2.trans (b6.mono B5.out.2.size)⟩
        clear b6
        go_wp2_with fail
        refine (TL _ (B6.out.1) (HP.out.step B6.out.2)).mono ?_
        rintro x w7 ⟨rfl, b7⟩
        have B7 : Hid (Below w.heap.size w w7) := B6.out.2.trans (b7.mono B6.out.2.size)
        clear b7
        go_wp2_with fail
        refine (S1 _ (HP.out.step B7.out)).mono ?_
        rintro x w8 ⟨rfl, b8⟩
        have B8 : Hid (Below w.heap.size w w8) := B7.out.trans (b8.mono B7.out.size)
        clear b8
        go_wp2
        go_ret
        exact ⟨rfl, B8.out⟩
end Go.Proofs.YtelobjhmbabiaaaDoor
