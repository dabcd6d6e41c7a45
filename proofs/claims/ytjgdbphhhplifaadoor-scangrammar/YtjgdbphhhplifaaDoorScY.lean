/-
  The document's Prefix and Scan: what they answer for every text.
-/
import Derived.Test.YtjgdbphhhplifaaDoorScXm
import Derived.Test.YtjgdbphhhplifaaDoorScXp
import Derived.Test.YtjgdbphhhplifaaDoorScXz
import Derived.Test.YtjgdbphhhplifaaDoorScS
import Derived.Test.YtjgdbphhhplifaaDoorScU
import Derived.Test.YtjgdbphhhplifaaDoorScH
namespace Go.Proofs.YtjgdbphhhplifaaDoor
open Go.RowKit

/-- What the document's Prefix answers. -/
def rpV : Option (Pt × Nat) → Value
  | none => .tuple #[agP false 0 ⟨#[]⟩ 0 false 0 0 false, .int .i64 0, .int .i64 3]
  | some (p, n) => .tuple #[ptV p, .int .i64 (n : Int), .int .i64 0]
theorem h0_drop (u : List UInt8) : u = [] ∨ u = h0 u :: u.drop 1 := by
  cases u with
  | nil => exact Or.inl rfl
  | cons c t => exact Or.inr rfl
theorem exn_h0 {L : Nat} (hL : L ≠ 0) (u : List UInt8) : exn L u = if (sml (h0 u)).toNat = L then (if rch 10 false ((u.drop 1).drop (sgA (u.drop 1))) = 0 then none else some (exN (u.drop 1), 1 + sgA (u.drop 1) + rch 10 false ((u.drop 1).drop (sgA (u.drop 1))))) else none := by
  cases u with
  | nil =>
    rw [if_neg (by show ¬ (sml 0).toNat = L; rw [show (sml 0).toNat = 0 by decide]; omega)]
    rfl
  | cons c t => rfl
theorem nan_not (r : List UInt8) (h : wdB wNan r = true) : wdB wInfinity r = false ∧ wdB wInf r = false := by
  cases r with
  | nil => cases h
  | cons c t =>
    have h' : ((sml c == 110) && wdB [97, 110] t) = true := h
    rw [Bool.and_eq_true] at h'
    have e : sml c = 110 := by simpa using h'.1
    constructor
    · show ((sml c == 105) && _) = false
      rw [e]; rfl
    · show ((sml c == 105) && _) = false
      rw [e]; rfl
theorem isX_h0 (r : List UInt8) : isX r = decide ((h0 r) = 48 ∧ (sml (h0 (r.drop 1))).toNat = 120) := by
  cases r with
  | nil => rfl
  | cons c t =>
    have e1 : (hdC (c :: t) = 48) ↔ c = 48 := ⟨fun h => UInt8.toNat_inj.1 h, fun h => by rw [h]; rfl⟩
    have e2 : (hdC t = 120 ∨ hdC t = 88) ↔ (sml (h0 t)).toNat = 120 := by
      cases t with
      | nil =>
        have a : (sml (h0 ([] : List UInt8))).toNat = 0 := by decide
        have b : hdC ([] : List UInt8) = 256 := rfl
        rw [a, b]
        constructor <;> intro q <;> omega
      | cons d u =>
        show (d.toNat = 120 ∨ d.toNat = 88) ↔ (sml d).toNat = 120
        have := sml_nat d
        constructor
        · intro q
          rcases q with q | q
          · rw [if_neg (by omega)] at this; omega
          · rw [if_pos (by omega)] at this; omega
        · intro q
          by_cases a : 65 ≤ (d.toNat : Int) ∧ (d.toNat : Int) ≤ 90
          · rw [if_pos a] at this; right; omega
          · rw [if_neg a] at this; left; omega
    unfold isX
    show decide (hdC (c :: t) = 48 ∧ (hdC t = 120 ∨ hdC t = 88)) = decide (c = 48 ∧ (sml (h0 t)).toNat = 120)
    by_cases a : c = 48 ∧ (sml (h0 t)).toNat = 120
    · rw [decide_eq_true a, decide_eq_true ⟨e1.2 a.1, e2.2 a.2⟩]
    · rw [decide_eq_false a, decide_eq_false (fun q => a ⟨e1.1 q.1, e2.1 q.2⟩)]
/-- Of a text that begins with 0x a decimal takes the nought alone. -/
theorem x_dec {r : List UInt8} (h : isX r = true) : mnt 10 false r = some ([48], [], 1) ∧ (sml (h0 (r.drop 1))).toNat ≠ 101 ∧ kDec r = some (dePt [48] [] 0, 1) := by
  rw [isX_h0] at h
  have h' := of_decide_eq_true h
  have hne : (sml (h0 (r.drop 1))).toNat ≠ 101 := by rw [h'.2]; omega
  have hm : mnt 10 false r = some ([48], [], 1) := by
    cases r with
    | nil => have := h'.1; cases this
    | cons c t =>
      have hc : c = 48 := h'.1
      subst hc
      have ht : (sml (h0 t)).toNat = 120 := h'.2
      cases t with
      | nil => rw [show (sml (h0 ([] : List UInt8))).toNat = 0 by decide] at ht; omega
      | cons d u =>
        have hd : (sml d).toNat = 120 := ht
        have hs := sml_nat d
        have hdd : d.toNat = 120 ∨ d.toNat = 88 := by
          by_cases a : 65 ≤ (d.toNat : Int) ∧ (d.toNat : Int) ≤ 90
          · rw [if_pos a] at hs; right; omega
          · rw [if_neg a] at hs; left; omega
        have nd : isD 10 d = false := by rw [isD_ten rfl]; exact decide_eq_false (by omega)
        have n95 : d ≠ 95 := fun z => by rw [z] at hdd; revert hdd; decide
        have e1 : rch 10 false (48 :: d :: u) = 1 := by
          rw [rch_digit (by decide), rch_bad nd (fun z => n95 z.1)]
        have e2 : rdg 10 false (48 :: d :: u) = [48] := by
          rw [rdg_digit (by decide), rdg_bad nd (fun z => n95 z.1)]
        have e3 : ¬ hdC ((48 :: d :: u).drop 1) = 46 := by
          show ¬ d.toNat = 46
          omega
        unfold mnt
        rw [e1, if_neg e3, if_neg (by omega), e2]
  refine ⟨hm, hne, ?_⟩
  rw [kDec_some hm, exn_h0 (by omega), if_neg hne]; rfl
theorem kHex_a {r : List UInt8} (h : mnt 16 true (r.drop 2) = none) : kHex r = none := by unfold kHex; rw [h]; split <;> rfl
theorem kHex_b {r W P : List UInt8} {n : Nat} (h : mnt 16 true (r.drop 2) = some (W, P, n)) (h2 : exn 112 (r.drop (2 + n)) = none) : kHex r = none := by
  unfold kHex; rw [h]
  show (if _ then (match exn 112 (r.drop (2 + n)) with | none => none | some (e, m) => some (hxPt W P e, 2 + n + m)) else none) = none
  rw [h2]; split <;> rfl
theorem kHex_c {r W P : List UInt8} {n m : Nat} {e : Int} (hx : isX r = true) (h : mnt 16 true (r.drop 2) = some (W, P, n)) (h2 : exn 112 (r.drop (2 + n)) = some (e, m)) : kHex r = some (hxPt W P e, 2 + n + m) := by
  unfold kHex; rw [if_pos hx, h]
  show (match exn 112 (r.drop (2 + n)) with | none => none | some (e, m) => some (hxPt W P e, 2 + n + m)) = _
  rw [h2]
theorem kDec_a {r W P : List UInt8} {n : Nat} (h : mnt 10 false r = some (W, P, n)) (h2 : exn 101 (r.drop n) = none) : kDec r = some (dePt W P 0, n) := by rw [kDec_some h, h2]; rfl
theorem kDec_b {r W P : List UInt8} {n m : Nat} {e : Int} (h : mnt 10 false r = some (W, P, n)) (h2 : exn 101 (r.drop n) = some (e, m)) : kDec r = some (dePt W P e, n + m) := by rw [kDec_some h, h2]; rfl
theorem rpV_some {l : List UInt8} {p : Pt} {n : Nat} {g : Bool} {i k : Nat} (h : kAny (decide (0 < sgA l)) (l.drop (sgA l)) = some (p, n)) (hg : sgM l = g) (hi : sgA l = i) (hk : i + n = k) : rpV (pfx l) = .tuple #[agP g p.kind (bl p.dd) p.dp p.dc (p.mant : Int) p.exp p.cut, .int .i64 (k : Int), .int .i64 0] := by
  rw [pfx_some h, hg, hi, hk]; rfl
theorem rpV_none {l : List UInt8} (h : kAny (decide (0 < sgA l)) (l.drop (sgA l)) = none) : rpV (pfx l) = .tuple #[agP false 0 ⟨#[]⟩ 0 false 0 0 false, .int .i64 0, .int .i64 3] := by
  rw [pfx_none h]; rfl
theorem u8_ne' {c : UInt8} {n : Nat} (h : c.toNat ≠ n) : ((c.toNat : Int) == (n : Int)) = false := beq_eq_false_iff_ne.mpr fun y => h (Int.ofNat_inj.1 y)
theorem rex_some {l : List UInt8} (hl : l.length ≤ 1048576) {k : Nat} (hk : k ≤ l.length) (L : Nat) (hL : L ≠ 0) (hs : (sml (h0 (l.drop k))).toNat = L) :
    (exn L (l.drop k) = none ∧ ∃ e1 : Int, ∀ W, Calls Tryd.prog 30 #[.string (bl l), .int .i64 ((k : Int) + 1)] W fun e w' => e = .returned (.tuple #[.int .i64 0, .int .i64 e1, .bool false]) ∧ Below W.heap.size W w') ∨
    (∃ (X : Int) (m : Nat), exn L (l.drop k) = some (X, m) ∧ ∀ W, Calls Tryd.prog 30 #[.string (bl l), .int .i64 ((k : Int) + 1)] W fun e w' => e = .returned (.tuple #[.int .i64 X, .int .i64 ((k + m : Nat) : Int), .bool true]) ∧ Below W.heap.size W w') := by
  have e := exn_h0 hL (l.drop k)
  rw [if_pos hs] at e
  have d1 : (l.drop k).drop 1 = l.drop (k + 1) := List.drop_drop
  have d2 : (l.drop (k + 1)).drop (sgA (l.drop (k + 1))) = l.drop (k + 1 + sgA (l.drop (k + 1))) := List.drop_drop
  rw [d1, d2] at e
  by_cases z : rch 10 false (l.drop (k + 1 + sgA (l.drop (k + 1)))) = 0
  · left
    rw [if_pos z] at e
    exact ⟨e, _, fun W => rexp_zero (bl l) hl (k + 1) (by rw [bl_size]; omega) z W⟩
  · right
    rw [if_neg z] at e
    refine ⟨_, _, e, fun W => ?_⟩
    have q := rexp_pos (bl l) hl (k + 1) (by rw [bl_size]; omega) z W
    have ee : k + (1 + sgA (l.drop (k + 1)) + rch 10 false (l.drop (k + 1 + sgA (l.drop (k + 1))))) = k + 1 + sgA (l.drop (k + 1)) + rch 10 false (l.drop (k + 1 + sgA (l.drop (k + 1)))) := by omega
    rw [ee]
    exact q
set_option maxHeartbeats 1000000 in
theorem rpx_m (l : List UInt8) (hl : l.length ≤ 1048576) (h : h0 l = 45) (w : World) : Calls Tryd.prog 11 #[.string (bl l)] w fun e w' => e = .returned (rpV (pfx l)) ∧ Below w.heap.size w w' := by
  obtain ⟨hg, hi⟩ := h0_sg45 h
  have hll : (bl l).size ≤ 1048576 := hl
  have il : 1 ≤ l.length := by have := sgA_le l; omega
  have hk0 : kAny (decide (0 < sgA l)) (l.drop (sgA l)) = kAny true (l.drop 1) := by rw [hi]; rfl
  have AT := fun k W => at_any (bl l) k W
  have SMc := fun c W => rsmall_any c W
  have A0 : ∀ W, Calls Tryd.prog 26 #[.string (bl l), .int .i64 0] W fun e w' => e = .returned (.int .u8 45) ∧ w' = W := fun W => by have := AT 0 W; rw [List.drop_zero, bl_list, h] at this; exact this
  have WIN : ∀ W, Calls Tryd.prog 27 #[.string (bl l), .int .i64 1, .string ⟨#[105, 110, 102, 105, 110, 105, 116, 121]⟩] W fun e w' => e = .returned (.bool (wdB wInfinity (l.drop 1))) ∧ Below W.heap.size W w' := fun W => word_any (bl l) ⟨#[105, 110, 102, 105, 110, 105, 116, 121]⟩ 1 hll (by decide) (by decide) (by omega) W
  have WIF : ∀ W, Calls Tryd.prog 27 #[.string (bl l), .int .i64 1, .string ⟨#[105, 110, 102]⟩] W fun e w' => e = .returned (.bool (wdB wInf (l.drop 1))) ∧ Below W.heap.size W w' := fun W => word_any (bl l) ⟨#[105, 110, 102]⟩ 1 hll (by decide) (by decide) (by omega) W
  obtain ⟨r, hr⟩ : ∃ r, r = l.drop 1 := ⟨_, rfl⟩
  rw [← hr] at hk0 WIN WIF
  have hrl : r.length ≤ 1048576 := by rw [hr, List.length_drop]; omega
  have drp : ∀ k, l.drop (1 + k) = r.drop k := fun k => by rw [hr, List.drop_drop]
  have kn : kNan true r = none := by unfold kNan; rw [if_neg (fun z => by cases z.1)]
  rcases Bool.eq_false_or_eq_true (wdB wInfinity r) with q1 | q1
  · rw [rpV_some (hk0.trans (kAny_1 (kInf_1 q1))) hg hi rfl]
    rw [q1] at WIN
    exact rp_m_infty (bl l) w A0 WIN
  rw [q1] at WIN
  rcases Bool.eq_false_or_eq_true (wdB wInf r) with q2 | q2
  · rw [rpV_some (hk0.trans (kAny_1 (kInf_2 q1 q2))) hg hi rfl]
    rw [q2] at WIF
    exact rp_m_inf (bl l) w A0 WIN WIF
  rw [q2] at WIF
  have ki := kInf_0 q1 q2
  have MD : ∀ W, Calls Tryd.prog 29 #[.string (bl l), .int .i64 1, .bool false] W fun e w' => e = .returned (rmV 1 (mnt 10 false r)) ∧ Below W.heap.size W w' := fun W => by have := rmant_any (bl l) hll 1 (by omega) false W; rw [bl_list, ← hr] at this; exact this
  have MH : isX r = true → ∀ W, Calls Tryd.prog 29 #[.string (bl l), .int .i64 3, .bool true] W fun e w' => e = .returned (rmV 3 (mnt 16 true (r.drop 2))) ∧ Below W.heap.size W w' := fun hx W => by
    have h2 := isX_len hx
    have h3 : 2 ≤ l.length - 1 := by rw [hr, List.length_drop] at h2; exact h2
    have := rmant_any (bl l) hll 3 (by rw [bl_size]; omega) true W
    rw [bl_list, show l.drop 3 = r.drop 2 from drp 2] at this
    exact this
  have AT1 : ∀ W, Calls Tryd.prog 26 #[.string (bl l), .int .i64 1] W fun e w' => e = .returned (.int .u8 ((h0 r).toNat : Int)) ∧ w' = W := fun W => by have := AT 1 W; rw [bl_list, ← hr] at this; exact this
  have AT2 : ∀ W, Calls Tryd.prog 26 #[.string (bl l), .int .i64 2] W fun e w' => e = .returned (.int .u8 ((h0 (r.drop 1)).toNat : Int)) ∧ w' = W := fun W => by have := AT 2 W; rw [bl_list, show l.drop 2 = r.drop 1 from drp 1] at this; exact this
  have ATk : ∀ k W, Calls Tryd.prog 26 #[.string (bl l), .int .i64 ((1 + k : Nat) : Int)] W fun e w' => e = .returned (.int .u8 ((h0 (r.drop k)).toNat : Int)) ∧ w' = W := fun k W => by have := AT (1 + k) W; rw [bl_list, drp k] at this; exact this
  have RX : ∀ k, k ≤ r.length → 1 + k ≤ l.length := fun k hk => by rw [hr, List.length_drop] at hk; omega
  -- the decimal
  have DECS : (kDec r = none ∧ mnt 10 false r = none) ∨ (∃ W P n, mnt 10 false r = some (W, P, n) ∧ n ≤ r.length ∧ W.length + P.length ≤ 1048576) := by
    cases q : mnt 10 false r with
    | none => exact Or.inl ⟨kDec_none q, rfl⟩
    | some x =>
      obtain ⟨W, P, n⟩ := x
      have := mnt_pos q
      have := mnt_len q
      exact Or.inr ⟨W, P, n, rfl, by omega, by omega⟩
  rcases Bool.eq_false_or_eq_true (isX r) with hx | hx
  · have hx' := of_decide_eq_true ((isX_h0 r).symm.trans hx)
    have AT1' : ∀ W, Calls Tryd.prog 26 #[.string (bl l), .int .i64 1] W fun e w' => e = .returned (.int .u8 48) ∧ w' = W := fun W => by have := AT1 W; rw [hx'.1] at this; exact this
    have SM2 : ∀ W, Calls Tryd.prog 28 #[.int .u8 ((h0 (r.drop 1)).toNat : Int)] W fun e w' => e = .returned (.int .u8 120) ∧ w' = W := fun W => by have := SMc (h0 (r.drop 1)) W; rw [hx'.2] at this; exact this
    have MH1 := MH hx
    obtain ⟨xd1, xd2, xd3⟩ := x_dec hx
    rw [xd1] at MD
    have y4 : (((sml (h0 (r.drop 1))).toNat : Int) == 101) = false := u8_ne' xd2
    have D0 := fun W => rdec_any [48] [] (by decide) 0 W
    have hxl := isX_len hx
    have e4 : 1 + 1 ≤ 1048580 := by omega
    cases qm : mnt 16 true (r.drop 2) with
    | none =>
      rw [qm] at MH1
      rw [rpV_some (hk0.trans (kAny_4 ki kn (kHex_a qm) xd3)) hg hi rfl]
      exact rp_m_xa_noe (bl l) _ 3 _ _ (1 + 1) _ _ _ _ _ _ _ w (by omega) e4 y4 A0 WIN WIF AT1' AT2 SM2 MH1 MD (ATk 1) (SMc _) D0
    | some x =>
      obtain ⟨W, P, n⟩ := x
      rw [qm] at MH1
      have hm := mnt_pos qm
      have hmm := mnt_len qm
      rw [List.length_drop] at hm hmm
      have dd : (r.drop 2).drop n = r.drop (2 + n) := List.drop_drop
      by_cases y3 : (sml (h0 (r.drop (2 + n)))).toNat = 112
      · have SM3 : ∀ W', Calls Tryd.prog 28 #[.int .u8 ((h0 (r.drop (2 + n))).toNat : Int)] W' fun e w' => e = .returned (.int .u8 112) ∧ w' = W' := fun W' => by have := SMc (h0 (r.drop (2 + n))) W'; rw [y3] at this; exact this
        have y3' : (sml (h0 (l.drop (1 + 2 + n)))).toNat = 112 := by rw [show 1 + 2 + n = 1 + (2 + n) by omega, drp]; exact y3
        have a3 : ∀ W', Calls Tryd.prog 26 #[.string (bl l), .int .i64 ((1 + 2 + n : Nat) : Int)] W' fun e w' => e = .returned (.int .u8 ((h0 (r.drop (2 + n))).toNat : Int)) ∧ w' = W' := fun W' => by have := ATk (2 + n) W'; rw [show 1 + (2 + n) = 1 + 2 + n by omega] at this; exact this
        rcases rex_some hl (k := 1 + 2 + n) (by have := RX (2 + n) (by omega); omega) 112 (by omega) y3' with ⟨qe, e1, EX⟩ | ⟨X, m, qe, EX⟩
        · rw [show 1 + 2 + n = 1 + (2 + n) by omega, drp] at qe
          rw [rpV_some (hk0.trans (kAny_4 ki kn (kHex_b qm qe) xd3)) hg hi rfl]
          exact rp_m_xc_noe (bl l) _ (1 + 2 + n) _ _ _ _ _ (1 + 1) _ _ _ _ _ _ _ w (by omega) e4 y4 A0 WIN WIF AT1' AT2 SM2 MH1 a3 SM3 EX MD (ATk 1) (SMc _) D0
        · rw [show 1 + 2 + n = 1 + (2 + n) by omega, drp] at qe
          have ep := exn_pos qe
          rw [rpV_some (k := 1 + 2 + n + m) (hk0.trans (kAny_3 ki kn (kHex_c hx qm qe))) hg hi (by omega)]
          have HX := fun W' => hexa_any W P (by omega) (mnt_mem qm) X ep.2.2.1 ep.2.2.2 W'
          exact rp_m_hexok (bl l) _ (1 + 2 + n) _ _ _ _ _ _ _ _ _ _ _ _ _ w (by omega) A0 WIN WIF AT1' AT2 SM2 MH1 a3 SM3 EX HX
      · have y3' : (((sml (h0 (r.drop (2 + n)))).toNat : Int) == 112) = false := u8_ne' y3
        have qe : exn 112 (r.drop (2 + n)) = none := by rw [exn_h0 (by omega), if_neg y3]
        have a3 : ∀ W', Calls Tryd.prog 26 #[.string (bl l), .int .i64 ((1 + 2 + n : Nat) : Int)] W' fun e w' => e = .returned (.int .u8 ((h0 (r.drop (2 + n))).toNat : Int)) ∧ w' = W' := fun W' => by have := ATk (2 + n) W'; rw [show 1 + (2 + n) = 1 + 2 + n by omega] at this; exact this
        rw [rpV_some (hk0.trans (kAny_4 ki kn (kHex_b qm qe) xd3)) hg hi rfl]
        exact rp_m_xb_noe (bl l) _ (1 + 2 + n) _ _ _ _ (1 + 1) _ _ _ _ _ _ _ w (by omega) y3' e4 y4 A0 WIN WIF AT1' AT2 SM2 MH1 a3 (SMc _) MD (ATk 1) (SMc _) D0
  · have kh := kHex_not hx
    have hx' := of_decide_eq_false ((isX_h0 r).symm.trans hx)
    by_cases c48 : h0 r = 48
    · have AT1' : ∀ W, Calls Tryd.prog 26 #[.string (bl l), .int .i64 1] W fun e w' => e = .returned (.int .u8 48) ∧ w' = W := fun W => by have := AT1 W; rw [c48] at this; exact this
      have hy2 : (((sml (h0 (r.drop 1))).toNat : Int) == 120) = false := u8_ne' (fun z => hx' ⟨c48, z⟩)
      rcases DECS with ⟨kd, qd⟩ | ⟨W, P, n, qd, hn, hwp⟩
      · rw [rpV_none (hk0.trans (kAny_0 ki kn kh kd))]
        rw [qd] at MD
        exact rp_m_nb_none (bl l) _ _ _ _ _ w hy2 A0 WIN WIF AT1' AT2 (SMc _) MD
      · rw [qd] at MD
        have hle : 1 + n ≤ 1048580 := by have := RX n hn; omega
        by_cases y4 : (sml (h0 (r.drop n))).toNat = 101
        · have SM4 : ∀ W', Calls Tryd.prog 28 #[.int .u8 ((h0 (r.drop n)).toNat : Int)] W' fun e w' => e = .returned (.int .u8 101) ∧ w' = W' := fun W' => by have := SMc (h0 (r.drop n)) W'; rw [y4] at this; exact this
          have y4' : (sml (h0 (l.drop (1 + n)))).toNat = 101 := by rw [drp]; exact y4
          rcases rex_some hl (k := 1 + n) (RX n hn) 101 (by omega) y4' with ⟨qe, e1, EX⟩ | ⟨X, m, qe, EX⟩
          · rw [drp] at qe
            rw [rpV_some (hk0.trans (kAny_4 ki kn kh (kDec_a qd qe))) hg hi rfl]
            exact rp_m_nb_efail (bl l) _ _ (1 + n) _ _ _ _ _ _ _ _ w hy2 hle A0 WIN WIF AT1' AT2 (SMc _) MD (ATk n) SM4 EX (fun W' => rdec_any W P hwp 0 W')
          · rw [drp] at qe
            rw [rpV_some (k := 1 + n + m) (hk0.trans (kAny_4 ki kn kh (kDec_b qd qe))) hg hi (by omega)]
            exact rp_m_nb_eok (bl l) _ _ (1 + n) _ _ _ _ _ _ _ _ w hy2 hle A0 WIN WIF AT1' AT2 (SMc _) MD (ATk n) SM4 EX (fun W' => rdec_any W P hwp X W')
        · have y4' : (((sml (h0 (r.drop n))).toNat : Int) == 101) = false := u8_ne' y4
          have qe : exn 101 (r.drop n) = none := by rw [exn_h0 (by omega), if_neg y4]
          rw [rpV_some (hk0.trans (kAny_4 ki kn kh (kDec_a qd qe))) hg hi rfl]
          exact rp_m_nb_noe (bl l) _ _ (1 + n) _ _ _ _ _ _ _ w hy2 hle y4' A0 WIN WIF AT1' AT2 (SMc _) MD (ATk n) (SMc _) (fun W' => rdec_any W P hwp 0 W')
    · have hx1 : (((h0 r).toNat : Int) == 48) = false := u8_ne c48
      rcases DECS with ⟨kd, qd⟩ | ⟨W, P, n, qd, hn, hwp⟩
      · rw [rpV_none (hk0.trans (kAny_0 ki kn kh kd))]
        rw [qd] at MD
        exact rp_m_na_none (bl l) _ _ _ _ w hx1 A0 WIN WIF AT1 MD
      · rw [qd] at MD
        have hle : 1 + n ≤ 1048580 := by have := RX n hn; omega
        by_cases y4 : (sml (h0 (r.drop n))).toNat = 101
        · have SM4 : ∀ W', Calls Tryd.prog 28 #[.int .u8 ((h0 (r.drop n)).toNat : Int)] W' fun e w' => e = .returned (.int .u8 101) ∧ w' = W' := fun W' => by have := SMc (h0 (r.drop n)) W'; rw [y4] at this; exact this
          have y4' : (sml (h0 (l.drop (1 + n)))).toNat = 101 := by rw [drp]; exact y4
          rcases rex_some hl (k := 1 + n) (RX n hn) 101 (by omega) y4' with ⟨qe, e1, EX⟩ | ⟨X, m, qe, EX⟩
          · rw [drp] at qe
            rw [rpV_some (hk0.trans (kAny_4 ki kn kh (kDec_a qd qe))) hg hi rfl]
            exact rp_m_na_efail (bl l) _ (1 + n) _ _ _ _ _ _ _ _ w hx1 hle A0 WIN WIF AT1 MD (ATk n) SM4 EX (fun W' => rdec_any W P hwp 0 W')
          · rw [drp] at qe
            rw [rpV_some (k := 1 + n + m) (hk0.trans (kAny_4 ki kn kh (kDec_b qd qe))) hg hi (by omega)]
            exact rp_m_na_eok (bl l) _ (1 + n) _ _ _ _ _ _ _ _ w hx1 hle A0 WIN WIF AT1 MD (ATk n) SM4 EX (fun W' => rdec_any W P hwp X W')
        · have y4' : (((sml (h0 (r.drop n))).toNat : Int) == 101) = false := u8_ne' y4
          have qe : exn 101 (r.drop n) = none := by rw [exn_h0 (by omega), if_neg y4]
          rw [rpV_some (hk0.trans (kAny_4 ki kn kh (kDec_a qd qe))) hg hi rfl]
          exact rp_m_na_noe (bl l) _ (1 + n) _ _ _ _ _ _ _ w hx1 hle y4' A0 WIN WIF AT1 MD (ATk n) (SMc _) (fun W' => rdec_any W P hwp 0 W')
set_option maxHeartbeats 1000000 in
theorem rpx_p (l : List UInt8) (hl : l.length ≤ 1048576) (h : h0 l = 43) (w : World) : Calls Tryd.prog 11 #[.string (bl l)] w fun e w' => e = .returned (rpV (pfx l)) ∧ Below w.heap.size w w' := by
  obtain ⟨hg, hi⟩ := h0_sg43 h
  have hll : (bl l).size ≤ 1048576 := hl
  have il : 1 ≤ l.length := by have := sgA_le l; omega
  have hk0 : kAny (decide (0 < sgA l)) (l.drop (sgA l)) = kAny true (l.drop 1) := by rw [hi]; rfl
  have AT := fun k W => at_any (bl l) k W
  have SMc := fun c W => rsmall_any c W
  have A0 : ∀ W, Calls Tryd.prog 26 #[.string (bl l), .int .i64 0] W fun e w' => e = .returned (.int .u8 43) ∧ w' = W := fun W => by have := AT 0 W; rw [List.drop_zero, bl_list, h] at this; exact this
  have WIN : ∀ W, Calls Tryd.prog 27 #[.string (bl l), .int .i64 1, .string ⟨#[105, 110, 102, 105, 110, 105, 116, 121]⟩] W fun e w' => e = .returned (.bool (wdB wInfinity (l.drop 1))) ∧ Below W.heap.size W w' := fun W => word_any (bl l) ⟨#[105, 110, 102, 105, 110, 105, 116, 121]⟩ 1 hll (by decide) (by decide) (by omega) W
  have WIF : ∀ W, Calls Tryd.prog 27 #[.string (bl l), .int .i64 1, .string ⟨#[105, 110, 102]⟩] W fun e w' => e = .returned (.bool (wdB wInf (l.drop 1))) ∧ Below W.heap.size W w' := fun W => word_any (bl l) ⟨#[105, 110, 102]⟩ 1 hll (by decide) (by decide) (by omega) W
  obtain ⟨r, hr⟩ : ∃ r, r = l.drop 1 := ⟨_, rfl⟩
  rw [← hr] at hk0 WIN WIF
  have hrl : r.length ≤ 1048576 := by rw [hr, List.length_drop]; omega
  have drp : ∀ k, l.drop (1 + k) = r.drop k := fun k => by rw [hr, List.drop_drop]
  have kn : kNan true r = none := by unfold kNan; rw [if_neg (fun z => by cases z.1)]
  rcases Bool.eq_false_or_eq_true (wdB wInfinity r) with q1 | q1
  · rw [rpV_some (hk0.trans (kAny_1 (kInf_1 q1))) hg hi rfl]
    rw [q1] at WIN
    exact rp_p_infty (bl l) w A0 WIN
  rw [q1] at WIN
  rcases Bool.eq_false_or_eq_true (wdB wInf r) with q2 | q2
  · rw [rpV_some (hk0.trans (kAny_1 (kInf_2 q1 q2))) hg hi rfl]
    rw [q2] at WIF
    exact rp_p_inf (bl l) w A0 WIN WIF
  rw [q2] at WIF
  have ki := kInf_0 q1 q2
  have MD : ∀ W, Calls Tryd.prog 29 #[.string (bl l), .int .i64 1, .bool false] W fun e w' => e = .returned (rmV 1 (mnt 10 false r)) ∧ Below W.heap.size W w' := fun W => by have := rmant_any (bl l) hll 1 (by omega) false W; rw [bl_list, ← hr] at this; exact this
  have MH : isX r = true → ∀ W, Calls Tryd.prog 29 #[.string (bl l), .int .i64 3, .bool true] W fun e w' => e = .returned (rmV 3 (mnt 16 true (r.drop 2))) ∧ Below W.heap.size W w' := fun hx W => by
    have h2 := isX_len hx
    have h3 : 2 ≤ l.length - 1 := by rw [hr, List.length_drop] at h2; exact h2
    have := rmant_any (bl l) hll 3 (by rw [bl_size]; omega) true W
    rw [bl_list, show l.drop 3 = r.drop 2 from drp 2] at this
    exact this
  have AT1 : ∀ W, Calls Tryd.prog 26 #[.string (bl l), .int .i64 1] W fun e w' => e = .returned (.int .u8 ((h0 r).toNat : Int)) ∧ w' = W := fun W => by have := AT 1 W; rw [bl_list, ← hr] at this; exact this
  have AT2 : ∀ W, Calls Tryd.prog 26 #[.string (bl l), .int .i64 2] W fun e w' => e = .returned (.int .u8 ((h0 (r.drop 1)).toNat : Int)) ∧ w' = W := fun W => by have := AT 2 W; rw [bl_list, show l.drop 2 = r.drop 1 from drp 1] at this; exact this
  have ATk : ∀ k W, Calls Tryd.prog 26 #[.string (bl l), .int .i64 ((1 + k : Nat) : Int)] W fun e w' => e = .returned (.int .u8 ((h0 (r.drop k)).toNat : Int)) ∧ w' = W := fun k W => by have := AT (1 + k) W; rw [bl_list, drp k] at this; exact this
  have RX : ∀ k, k ≤ r.length → 1 + k ≤ l.length := fun k hk => by rw [hr, List.length_drop] at hk; omega
  -- the decimal
  have DECS : (kDec r = none ∧ mnt 10 false r = none) ∨ (∃ W P n, mnt 10 false r = some (W, P, n) ∧ n ≤ r.length ∧ W.length + P.length ≤ 1048576) := by
    cases q : mnt 10 false r with
    | none => exact Or.inl ⟨kDec_none q, rfl⟩
    | some x =>
      obtain ⟨W, P, n⟩ := x
      have := mnt_pos q
      have := mnt_len q
      exact Or.inr ⟨W, P, n, rfl, by omega, by omega⟩
  rcases Bool.eq_false_or_eq_true (isX r) with hx | hx
  · have hx' := of_decide_eq_true ((isX_h0 r).symm.trans hx)
    have AT1' : ∀ W, Calls Tryd.prog 26 #[.string (bl l), .int .i64 1] W fun e w' => e = .returned (.int .u8 48) ∧ w' = W := fun W => by have := AT1 W; rw [hx'.1] at this; exact this
    have SM2 : ∀ W, Calls Tryd.prog 28 #[.int .u8 ((h0 (r.drop 1)).toNat : Int)] W fun e w' => e = .returned (.int .u8 120) ∧ w' = W := fun W => by have := SMc (h0 (r.drop 1)) W; rw [hx'.2] at this; exact this
    have MH1 := MH hx
    obtain ⟨xd1, xd2, xd3⟩ := x_dec hx
    rw [xd1] at MD
    have y4 : (((sml (h0 (r.drop 1))).toNat : Int) == 101) = false := u8_ne' xd2
    have D0 := fun W => rdec_any [48] [] (by decide) 0 W
    have hxl := isX_len hx
    have e4 : 1 + 1 ≤ 1048580 := by omega
    cases qm : mnt 16 true (r.drop 2) with
    | none =>
      rw [qm] at MH1
      rw [rpV_some (hk0.trans (kAny_4 ki kn (kHex_a qm) xd3)) hg hi rfl]
      exact rp_p_xa_noe (bl l) _ 3 _ _ (1 + 1) _ _ _ _ _ _ _ w (by omega) e4 y4 A0 WIN WIF AT1' AT2 SM2 MH1 MD (ATk 1) (SMc _) D0
    | some x =>
      obtain ⟨W, P, n⟩ := x
      rw [qm] at MH1
      have hm := mnt_pos qm
      have hmm := mnt_len qm
      rw [List.length_drop] at hm hmm
      have dd : (r.drop 2).drop n = r.drop (2 + n) := List.drop_drop
      by_cases y3 : (sml (h0 (r.drop (2 + n)))).toNat = 112
      · have SM3 : ∀ W', Calls Tryd.prog 28 #[.int .u8 ((h0 (r.drop (2 + n))).toNat : Int)] W' fun e w' => e = .returned (.int .u8 112) ∧ w' = W' := fun W' => by have := SMc (h0 (r.drop (2 + n))) W'; rw [y3] at this; exact this
        have y3' : (sml (h0 (l.drop (1 + 2 + n)))).toNat = 112 := by rw [show 1 + 2 + n = 1 + (2 + n) by omega, drp]; exact y3
        have a3 : ∀ W', Calls Tryd.prog 26 #[.string (bl l), .int .i64 ((1 + 2 + n : Nat) : Int)] W' fun e w' => e = .returned (.int .u8 ((h0 (r.drop (2 + n))).toNat : Int)) ∧ w' = W' := fun W' => by have := ATk (2 + n) W'; rw [show 1 + (2 + n) = 1 + 2 + n by omega] at this; exact this
        rcases rex_some hl (k := 1 + 2 + n) (by have := RX (2 + n) (by omega); omega) 112 (by omega) y3' with ⟨qe, e1, EX⟩ | ⟨X, m, qe, EX⟩
        · rw [show 1 + 2 + n = 1 + (2 + n) by omega, drp] at qe
          rw [rpV_some (hk0.trans (kAny_4 ki kn (kHex_b qm qe) xd3)) hg hi rfl]
          exact rp_p_xc_noe (bl l) _ (1 + 2 + n) _ _ _ _ _ (1 + 1) _ _ _ _ _ _ _ w (by omega) e4 y4 A0 WIN WIF AT1' AT2 SM2 MH1 a3 SM3 EX MD (ATk 1) (SMc _) D0
        · rw [show 1 + 2 + n = 1 + (2 + n) by omega, drp] at qe
          have ep := exn_pos qe
          rw [rpV_some (k := 1 + 2 + n + m) (hk0.trans (kAny_3 ki kn (kHex_c hx qm qe))) hg hi (by omega)]
          have HX := fun W' => hexa_any W P (by omega) (mnt_mem qm) X ep.2.2.1 ep.2.2.2 W'
          exact rp_p_hexok (bl l) _ (1 + 2 + n) _ _ _ _ _ _ _ _ _ _ _ _ _ w (by omega) A0 WIN WIF AT1' AT2 SM2 MH1 a3 SM3 EX HX
      · have y3' : (((sml (h0 (r.drop (2 + n)))).toNat : Int) == 112) = false := u8_ne' y3
        have qe : exn 112 (r.drop (2 + n)) = none := by rw [exn_h0 (by omega), if_neg y3]
        have a3 : ∀ W', Calls Tryd.prog 26 #[.string (bl l), .int .i64 ((1 + 2 + n : Nat) : Int)] W' fun e w' => e = .returned (.int .u8 ((h0 (r.drop (2 + n))).toNat : Int)) ∧ w' = W' := fun W' => by have := ATk (2 + n) W'; rw [show 1 + (2 + n) = 1 + 2 + n by omega] at this; exact this
        rw [rpV_some (hk0.trans (kAny_4 ki kn (kHex_b qm qe) xd3)) hg hi rfl]
        exact rp_p_xb_noe (bl l) _ (1 + 2 + n) _ _ _ _ (1 + 1) _ _ _ _ _ _ _ w (by omega) y3' e4 y4 A0 WIN WIF AT1' AT2 SM2 MH1 a3 (SMc _) MD (ATk 1) (SMc _) D0
  · have kh := kHex_not hx
    have hx' := of_decide_eq_false ((isX_h0 r).symm.trans hx)
    by_cases c48 : h0 r = 48
    · have AT1' : ∀ W, Calls Tryd.prog 26 #[.string (bl l), .int .i64 1] W fun e w' => e = .returned (.int .u8 48) ∧ w' = W := fun W => by have := AT1 W; rw [c48] at this; exact this
      have hy2 : (((sml (h0 (r.drop 1))).toNat : Int) == 120) = false := u8_ne' (fun z => hx' ⟨c48, z⟩)
      rcases DECS with ⟨kd, qd⟩ | ⟨W, P, n, qd, hn, hwp⟩
      · rw [rpV_none (hk0.trans (kAny_0 ki kn kh kd))]
        rw [qd] at MD
        exact rp_p_nb_none (bl l) _ _ _ _ _ w hy2 A0 WIN WIF AT1' AT2 (SMc _) MD
      · rw [qd] at MD
        have hle : 1 + n ≤ 1048580 := by have := RX n hn; omega
        by_cases y4 : (sml (h0 (r.drop n))).toNat = 101
        · have SM4 : ∀ W', Calls Tryd.prog 28 #[.int .u8 ((h0 (r.drop n)).toNat : Int)] W' fun e w' => e = .returned (.int .u8 101) ∧ w' = W' := fun W' => by have := SMc (h0 (r.drop n)) W'; rw [y4] at this; exact this
          have y4' : (sml (h0 (l.drop (1 + n)))).toNat = 101 := by rw [drp]; exact y4
          rcases rex_some hl (k := 1 + n) (RX n hn) 101 (by omega) y4' with ⟨qe, e1, EX⟩ | ⟨X, m, qe, EX⟩
          · rw [drp] at qe
            rw [rpV_some (hk0.trans (kAny_4 ki kn kh (kDec_a qd qe))) hg hi rfl]
            exact rp_p_nb_efail (bl l) _ _ (1 + n) _ _ _ _ _ _ _ _ w hy2 hle A0 WIN WIF AT1' AT2 (SMc _) MD (ATk n) SM4 EX (fun W' => rdec_any W P hwp 0 W')
          · rw [drp] at qe
            rw [rpV_some (k := 1 + n + m) (hk0.trans (kAny_4 ki kn kh (kDec_b qd qe))) hg hi (by omega)]
            exact rp_p_nb_eok (bl l) _ _ (1 + n) _ _ _ _ _ _ _ _ w hy2 hle A0 WIN WIF AT1' AT2 (SMc _) MD (ATk n) SM4 EX (fun W' => rdec_any W P hwp X W')
        · have y4' : (((sml (h0 (r.drop n))).toNat : Int) == 101) = false := u8_ne' y4
          have qe : exn 101 (r.drop n) = none := by rw [exn_h0 (by omega), if_neg y4]
          rw [rpV_some (hk0.trans (kAny_4 ki kn kh (kDec_a qd qe))) hg hi rfl]
          exact rp_p_nb_noe (bl l) _ _ (1 + n) _ _ _ _ _ _ _ w hy2 hle y4' A0 WIN WIF AT1' AT2 (SMc _) MD (ATk n) (SMc _) (fun W' => rdec_any W P hwp 0 W')
    · have hx1 : (((h0 r).toNat : Int) == 48) = false := u8_ne c48
      rcases DECS with ⟨kd, qd⟩ | ⟨W, P, n, qd, hn, hwp⟩
      · rw [rpV_none (hk0.trans (kAny_0 ki kn kh kd))]
        rw [qd] at MD
        exact rp_p_na_none (bl l) _ _ _ _ w hx1 A0 WIN WIF AT1 MD
      · rw [qd] at MD
        have hle : 1 + n ≤ 1048580 := by have := RX n hn; omega
        by_cases y4 : (sml (h0 (r.drop n))).toNat = 101
        · have SM4 : ∀ W', Calls Tryd.prog 28 #[.int .u8 ((h0 (r.drop n)).toNat : Int)] W' fun e w' => e = .returned (.int .u8 101) ∧ w' = W' := fun W' => by have := SMc (h0 (r.drop n)) W'; rw [y4] at this; exact this
          have y4' : (sml (h0 (l.drop (1 + n)))).toNat = 101 := by rw [drp]; exact y4
          rcases rex_some hl (k := 1 + n) (RX n hn) 101 (by omega) y4' with ⟨qe, e1, EX⟩ | ⟨X, m, qe, EX⟩
          · rw [drp] at qe
            rw [rpV_some (hk0.trans (kAny_4 ki kn kh (kDec_a qd qe))) hg hi rfl]
            exact rp_p_na_efail (bl l) _ (1 + n) _ _ _ _ _ _ _ _ w hx1 hle A0 WIN WIF AT1 MD (ATk n) SM4 EX (fun W' => rdec_any W P hwp 0 W')
          · rw [drp] at qe
            rw [rpV_some (k := 1 + n + m) (hk0.trans (kAny_4 ki kn kh (kDec_b qd qe))) hg hi (by omega)]
            exact rp_p_na_eok (bl l) _ (1 + n) _ _ _ _ _ _ _ _ w hx1 hle A0 WIN WIF AT1 MD (ATk n) SM4 EX (fun W' => rdec_any W P hwp X W')
        · have y4' : (((sml (h0 (r.drop n))).toNat : Int) == 101) = false := u8_ne' y4
          have qe : exn 101 (r.drop n) = none := by rw [exn_h0 (by omega), if_neg y4]
          rw [rpV_some (hk0.trans (kAny_4 ki kn kh (kDec_a qd qe))) hg hi rfl]
          exact rp_p_na_noe (bl l) _ (1 + n) _ _ _ _ _ _ _ w hx1 hle y4' A0 WIN WIF AT1 MD (ATk n) (SMc _) (fun W' => rdec_any W P hwp 0 W')
set_option maxHeartbeats 1000000 in
theorem rpx_z (l : List UInt8) (hl : l.length ≤ 1048576) (ha : h0 l ≠ 45) (hb : h0 l ≠ 43) (w : World) : Calls Tryd.prog 11 #[.string (bl l)] w fun e w' => e = .returned (rpV (pfx l)) ∧ Below w.heap.size w w' := by
  obtain ⟨hg, hi⟩ := h0_sg0 ha hb
  have hll : (bl l).size ≤ 1048576 := hl
  have il : 0 ≤ l.length := by have := sgA_le l; omega
  have hk0 : kAny (decide (0 < sgA l)) (l.drop (sgA l)) = kAny false (l.drop 0) := by rw [hi]; rfl
  have AT := fun k W => at_any (bl l) k W
  have SMc := fun c W => rsmall_any c W
  have A0 : ∀ W, Calls Tryd.prog 26 #[.string (bl l), .int .i64 0] W fun e w' => e = .returned (.int .u8 ((h0 l).toNat : Int)) ∧ w' = W := fun W => AT 0 W
  have hc1 : (((h0 l).toNat : Int) == 45) = false := u8_ne ha
  have hc2 : (((h0 l).toNat : Int) == 43) = false := u8_ne hb
  have WIN : ∀ W, Calls Tryd.prog 27 #[.string (bl l), .int .i64 0, .string ⟨#[105, 110, 102, 105, 110, 105, 116, 121]⟩] W fun e w' => e = .returned (.bool (wdB wInfinity (l.drop 0))) ∧ Below W.heap.size W w' := fun W => word_any (bl l) ⟨#[105, 110, 102, 105, 110, 105, 116, 121]⟩ 0 hll (by decide) (by decide) (by omega) W
  have WIF : ∀ W, Calls Tryd.prog 27 #[.string (bl l), .int .i64 0, .string ⟨#[105, 110, 102]⟩] W fun e w' => e = .returned (.bool (wdB wInf (l.drop 0))) ∧ Below W.heap.size W w' := fun W => word_any (bl l) ⟨#[105, 110, 102]⟩ 0 hll (by decide) (by decide) (by omega) W
  have WNA : ∀ W, Calls Tryd.prog 27 #[.string (bl l), .int .i64 0, .string ⟨#[110, 97, 110]⟩] W fun e w' => e = .returned (.bool (wdB wNan (l.drop 0))) ∧ Below W.heap.size W w' := fun W => word_any (bl l) ⟨#[110, 97, 110]⟩ 0 hll (by decide) (by decide) (by omega) W
  obtain ⟨r, hr⟩ : ∃ r, r = l.drop 0 := ⟨_, rfl⟩
  rw [← hr] at hk0 WIN WIF WNA
  have hrl : r.length ≤ 1048576 := by rw [hr, List.length_drop]; omega
  have drp : ∀ k, l.drop (0 + k) = r.drop k := fun k => by rw [hr, List.drop_drop]
  rcases Bool.eq_false_or_eq_true (wdB wNan r) with qn | qn
  · have k1 : kNan false r = some ({ kind := 4 }, 3) := by unfold kNan; rw [if_pos ⟨rfl, qn⟩]
    have k0 := nan_not r qn
    rw [rpV_some (hk0.trans (kAny_2 (kInf_0 k0.1 k0.2) k1)) hg hi rfl]
    rw [qn] at WNA
    exact rp_z_nan (bl l) _ w hc1 hc2 A0 WNA
  have kn : kNan false r = none := by unfold kNan; rw [if_neg (fun z => by rw [qn] at z; cases z.2)]
  rw [qn] at WNA
  rcases Bool.eq_false_or_eq_true (wdB wInfinity r) with q1 | q1
  · rw [rpV_some (hk0.trans (kAny_1 (kInf_1 q1))) hg hi rfl]
    rw [q1] at WIN
    exact rp_z_infty (bl l) _ w hc1 hc2 A0 WNA WIN
  rw [q1] at WIN
  rcases Bool.eq_false_or_eq_true (wdB wInf r) with q2 | q2
  · rw [rpV_some (hk0.trans (kAny_1 (kInf_2 q1 q2))) hg hi rfl]
    rw [q2] at WIF
    exact rp_z_inf (bl l) _ w hc1 hc2 A0 WNA WIN WIF
  rw [q2] at WIF
  have ki := kInf_0 q1 q2
  have MD : ∀ W, Calls Tryd.prog 29 #[.string (bl l), .int .i64 0, .bool false] W fun e w' => e = .returned (rmV 0 (mnt 10 false r)) ∧ Below W.heap.size W w' := fun W => by have := rmant_any (bl l) hll 0 (by omega) false W; rw [bl_list, ← hr] at this; exact this
  have MH : isX r = true → ∀ W, Calls Tryd.prog 29 #[.string (bl l), .int .i64 2, .bool true] W fun e w' => e = .returned (rmV 2 (mnt 16 true (r.drop 2))) ∧ Below W.heap.size W w' := fun hx W => by
    have h2 := isX_len hx
    have h3 : 2 ≤ l.length - 0 := by rw [hr, List.length_drop] at h2; exact h2
    have := rmant_any (bl l) hll 2 (by rw [bl_size]; omega) true W
    rw [bl_list, show l.drop 2 = r.drop 2 from drp 2] at this
    exact this
  have AT1 : ∀ W, Calls Tryd.prog 26 #[.string (bl l), .int .i64 0] W fun e w' => e = .returned (.int .u8 ((h0 r).toNat : Int)) ∧ w' = W := fun W => by have := AT 0 W; rw [bl_list, ← hr] at this; exact this
  have AT2 : ∀ W, Calls Tryd.prog 26 #[.string (bl l), .int .i64 1] W fun e w' => e = .returned (.int .u8 ((h0 (r.drop 1)).toNat : Int)) ∧ w' = W := fun W => by have := AT 1 W; rw [bl_list, show l.drop 1 = r.drop 1 from drp 1] at this; exact this
  have ATk : ∀ k W, Calls Tryd.prog 26 #[.string (bl l), .int .i64 ((0 + k : Nat) : Int)] W fun e w' => e = .returned (.int .u8 ((h0 (r.drop k)).toNat : Int)) ∧ w' = W := fun k W => by have := AT (0 + k) W; rw [bl_list, drp k] at this; exact this
  have RX : ∀ k, k ≤ r.length → 0 + k ≤ l.length := fun k hk => by rw [hr, List.length_drop] at hk; omega
  -- the decimal
  have DECS : (kDec r = none ∧ mnt 10 false r = none) ∨ (∃ W P n, mnt 10 false r = some (W, P, n) ∧ n ≤ r.length ∧ W.length + P.length ≤ 1048576) := by
    cases q : mnt 10 false r with
    | none => exact Or.inl ⟨kDec_none q, rfl⟩
    | some x =>
      obtain ⟨W, P, n⟩ := x
      have := mnt_pos q
      have := mnt_len q
      exact Or.inr ⟨W, P, n, rfl, by omega, by omega⟩
  rcases Bool.eq_false_or_eq_true (isX r) with hx | hx
  · have hx' := of_decide_eq_true ((isX_h0 r).symm.trans hx)
    have AT1' : ∀ W, Calls Tryd.prog 26 #[.string (bl l), .int .i64 0] W fun e w' => e = .returned (.int .u8 48) ∧ w' = W := fun W => by have := AT1 W; rw [hx'.1] at this; exact this
    have SM2 : ∀ W, Calls Tryd.prog 28 #[.int .u8 ((h0 (r.drop 1)).toNat : Int)] W fun e w' => e = .returned (.int .u8 120) ∧ w' = W := fun W => by have := SMc (h0 (r.drop 1)) W; rw [hx'.2] at this; exact this
    have MH1 := MH hx
    obtain ⟨xd1, xd2, xd3⟩ := x_dec hx
    rw [xd1] at MD
    have y4 : (((sml (h0 (r.drop 1))).toNat : Int) == 101) = false := u8_ne' xd2
    have D0 := fun W => rdec_any [48] [] (by decide) 0 W
    have hxl := isX_len hx
    have e4 : 0 + 1 ≤ 1048580 := by omega
    cases qm : mnt 16 true (r.drop 2) with
    | none =>
      rw [qm] at MH1
      rw [rpV_some (hk0.trans (kAny_4 ki kn (kHex_a qm) xd3)) hg hi rfl]
      exact rp_z_xa_noe (bl l) _ _ 2 _ _ (0 + 1) _ _ _ _ _ _ _ w hc1 hc2 (by omega) e4 y4 A0 WNA WIN WIF AT1' AT2 SM2 MH1 MD (ATk 1) (SMc _) D0
    | some x =>
      obtain ⟨W, P, n⟩ := x
      rw [qm] at MH1
      have hm := mnt_pos qm
      have hmm := mnt_len qm
      rw [List.length_drop] at hm hmm
      have dd : (r.drop 2).drop n = r.drop (2 + n) := List.drop_drop
      by_cases y3 : (sml (h0 (r.drop (2 + n)))).toNat = 112
      · have SM3 : ∀ W', Calls Tryd.prog 28 #[.int .u8 ((h0 (r.drop (2 + n))).toNat : Int)] W' fun e w' => e = .returned (.int .u8 112) ∧ w' = W' := fun W' => by have := SMc (h0 (r.drop (2 + n))) W'; rw [y3] at this; exact this
        have y3' : (sml (h0 (l.drop (0 + 2 + n)))).toNat = 112 := by rw [show 0 + 2 + n = 0 + (2 + n) by omega, drp]; exact y3
        have a3 : ∀ W', Calls Tryd.prog 26 #[.string (bl l), .int .i64 ((0 + 2 + n : Nat) : Int)] W' fun e w' => e = .returned (.int .u8 ((h0 (r.drop (2 + n))).toNat : Int)) ∧ w' = W' := fun W' => by have := ATk (2 + n) W'; rw [show 0 + (2 + n) = 0 + 2 + n by omega] at this; exact this
        rcases rex_some hl (k := 0 + 2 + n) (by have := RX (2 + n) (by omega); omega) 112 (by omega) y3' with ⟨qe, e1, EX⟩ | ⟨X, m, qe, EX⟩
        · rw [show 0 + 2 + n = 0 + (2 + n) by omega, drp] at qe
          rw [rpV_some (hk0.trans (kAny_4 ki kn (kHex_b qm qe) xd3)) hg hi rfl]
          exact rp_z_xc_noe (bl l) _ _ (0 + 2 + n) _ _ _ _ _ (0 + 1) _ _ _ _ _ _ _ w hc1 hc2 (by omega) e4 y4 A0 WNA WIN WIF AT1' AT2 SM2 MH1 a3 SM3 EX MD (ATk 1) (SMc _) D0
        · rw [show 0 + 2 + n = 0 + (2 + n) by omega, drp] at qe
          have ep := exn_pos qe
          rw [rpV_some (k := 0 + 2 + n + m) (hk0.trans (kAny_3 ki kn (kHex_c hx qm qe))) hg hi (by omega)]
          have HX := fun W' => hexa_any W P (by omega) (mnt_mem qm) X ep.2.2.1 ep.2.2.2 W'
          exact rp_z_hexok (bl l) _ _ (0 + 2 + n) _ _ _ _ _ _ _ _ _ _ _ _ _ w hc1 hc2 (by omega) A0 WNA WIN WIF AT1' AT2 SM2 MH1 a3 SM3 EX HX
      · have y3' : (((sml (h0 (r.drop (2 + n)))).toNat : Int) == 112) = false := u8_ne' y3
        have qe : exn 112 (r.drop (2 + n)) = none := by rw [exn_h0 (by omega), if_neg y3]
        have a3 : ∀ W', Calls Tryd.prog 26 #[.string (bl l), .int .i64 ((0 + 2 + n : Nat) : Int)] W' fun e w' => e = .returned (.int .u8 ((h0 (r.drop (2 + n))).toNat : Int)) ∧ w' = W' := fun W' => by have := ATk (2 + n) W'; rw [show 0 + (2 + n) = 0 + 2 + n by omega] at this; exact this
        rw [rpV_some (hk0.trans (kAny_4 ki kn (kHex_b qm qe) xd3)) hg hi rfl]
        exact rp_z_xb_noe (bl l) _ _ (0 + 2 + n) _ _ _ _ (0 + 1) _ _ _ _ _ _ _ w hc1 hc2 (by omega) y3' e4 y4 A0 WNA WIN WIF AT1' AT2 SM2 MH1 a3 (SMc _) MD (ATk 1) (SMc _) D0
  · have kh := kHex_not hx
    have hx' := of_decide_eq_false ((isX_h0 r).symm.trans hx)
    by_cases c48 : h0 r = 48
    · have AT1' : ∀ W, Calls Tryd.prog 26 #[.string (bl l), .int .i64 0] W fun e w' => e = .returned (.int .u8 48) ∧ w' = W := fun W => by have := AT1 W; rw [c48] at this; exact this
      have hy2 : (((sml (h0 (r.drop 1))).toNat : Int) == 120) = false := u8_ne' (fun z => hx' ⟨c48, z⟩)
      rcases DECS with ⟨kd, qd⟩ | ⟨W, P, n, qd, hn, hwp⟩
      · rw [rpV_none (hk0.trans (kAny_0 ki kn kh kd))]
        rw [qd] at MD
        exact rp_z_nb_none (bl l) _ _ _ _ _ _ w hc1 hc2 hy2 A0 WNA WIN WIF AT1' AT2 (SMc _) MD
      · rw [qd] at MD
        have hle : 0 + n ≤ 1048580 := by have := RX n hn; omega
        by_cases y4 : (sml (h0 (r.drop n))).toNat = 101
        · have SM4 : ∀ W', Calls Tryd.prog 28 #[.int .u8 ((h0 (r.drop n)).toNat : Int)] W' fun e w' => e = .returned (.int .u8 101) ∧ w' = W' := fun W' => by have := SMc (h0 (r.drop n)) W'; rw [y4] at this; exact this
          have y4' : (sml (h0 (l.drop (0 + n)))).toNat = 101 := by rw [drp]; exact y4
          rcases rex_some hl (k := 0 + n) (RX n hn) 101 (by omega) y4' with ⟨qe, e1, EX⟩ | ⟨X, m, qe, EX⟩
          · rw [drp] at qe
            rw [rpV_some (hk0.trans (kAny_4 ki kn kh (kDec_a qd qe))) hg hi rfl]
            exact rp_z_nb_efail (bl l) _ _ _ (0 + n) _ _ _ _ _ _ _ _ w hc1 hc2 hy2 hle A0 WNA WIN WIF AT1' AT2 (SMc _) MD (ATk n) SM4 EX (fun W' => rdec_any W P hwp 0 W')
          · rw [drp] at qe
            rw [rpV_some (k := 0 + n + m) (hk0.trans (kAny_4 ki kn kh (kDec_b qd qe))) hg hi (by omega)]
            exact rp_z_nb_eok (bl l) _ _ _ (0 + n) _ _ _ _ _ _ _ _ w hc1 hc2 hy2 hle A0 WNA WIN WIF AT1' AT2 (SMc _) MD (ATk n) SM4 EX (fun W' => rdec_any W P hwp X W')
        · have y4' : (((sml (h0 (r.drop n))).toNat : Int) == 101) = false := u8_ne' y4
          have qe : exn 101 (r.drop n) = none := by rw [exn_h0 (by omega), if_neg y4]
          rw [rpV_some (hk0.trans (kAny_4 ki kn kh (kDec_a qd qe))) hg hi rfl]
          exact rp_z_nb_noe (bl l) _ _ _ (0 + n) _ _ _ _ _ _ _ w hc1 hc2 hy2 hle y4' A0 WNA WIN WIF AT1' AT2 (SMc _) MD (ATk n) (SMc _) (fun W' => rdec_any W P hwp 0 W')
    · have hx1 : (((h0 r).toNat : Int) == 48) = false := u8_ne c48
      rcases DECS with ⟨kd, qd⟩ | ⟨W, P, n, qd, hn, hwp⟩
      · rw [rpV_none (hk0.trans (kAny_0 ki kn kh kd))]
        rw [qd] at MD
        exact rp_z_na_none (bl l) _ _ _ _ _ w hc1 hc2 hx1 A0 WNA WIN WIF AT1 MD
      · rw [qd] at MD
        have hle : 0 + n ≤ 1048580 := by have := RX n hn; omega
        by_cases y4 : (sml (h0 (r.drop n))).toNat = 101
        · have SM4 : ∀ W', Calls Tryd.prog 28 #[.int .u8 ((h0 (r.drop n)).toNat : Int)] W' fun e w' => e = .returned (.int .u8 101) ∧ w' = W' := fun W' => by have := SMc (h0 (r.drop n)) W'; rw [y4] at this; exact this
          have y4' : (sml (h0 (l.drop (0 + n)))).toNat = 101 := by rw [drp]; exact y4
          rcases rex_some hl (k := 0 + n) (RX n hn) 101 (by omega) y4' with ⟨qe, e1, EX⟩ | ⟨X, m, qe, EX⟩
          · rw [drp] at qe
            rw [rpV_some (hk0.trans (kAny_4 ki kn kh (kDec_a qd qe))) hg hi rfl]
            exact rp_z_na_efail (bl l) _ _ (0 + n) _ _ _ _ _ _ _ _ w hc1 hc2 hx1 hle A0 WNA WIN WIF AT1 MD (ATk n) SM4 EX (fun W' => rdec_any W P hwp 0 W')
          · rw [drp] at qe
            rw [rpV_some (k := 0 + n + m) (hk0.trans (kAny_4 ki kn kh (kDec_b qd qe))) hg hi (by omega)]
            exact rp_z_na_eok (bl l) _ _ (0 + n) _ _ _ _ _ _ _ _ w hc1 hc2 hx1 hle A0 WNA WIN WIF AT1 MD (ATk n) SM4 EX (fun W' => rdec_any W P hwp X W')
        · have y4' : (((sml (h0 (r.drop n))).toNat : Int) == 101) = false := u8_ne' y4
          have qe : exn 101 (r.drop n) = none := by rw [exn_h0 (by omega), if_neg y4]
          rw [rpV_some (hk0.trans (kAny_4 ki kn kh (kDec_a qd qe))) hg hi rfl]
          exact rp_z_na_noe (bl l) _ _ (0 + n) _ _ _ _ _ _ _ w hc1 hc2 hx1 hle y4' A0 WNA WIN WIF AT1 MD (ATk n) (SMc _) (fun W' => rdec_any W P hwp 0 W')
theorem rprefix_any (l : List UInt8) (hl : l.length ≤ 1048576) (w : World) : Calls Tryd.prog 11 #[.string (bl l)] w fun e w' => e = .returned (rpV (pfx l)) ∧ Below w.heap.size w w' := by
  by_cases a : h0 l = 45
  · exact rpx_m l hl a w
  · by_cases b : h0 l = 43
    · exact rpx_p l hl b w
    · exact rpx_z l hl a b w
end Go.Proofs.YtjgdbphhhplifaaDoor
