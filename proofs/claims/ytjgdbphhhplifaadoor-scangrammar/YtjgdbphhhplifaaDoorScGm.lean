/-
  Texts that are put together by the grammar's rules, with underscores or without: lists of bytes.
-/
import Derived.Test.YtjgdbphhhplifaaDoorScJ
namespace Go.Proofs.YtjgdbphhhplifaaDoor

/-- A row of digits with one underscore between two of them, or none. -/
def Brd (W B : List UInt8) : Prop := B = W ∨ ∃ x y, x ≠ [] ∧ y ≠ [] ∧ W = x ++ y ∧ B = x ++ 95 :: y
theorem Brd.nil {W B : List UInt8} (h : Brd W B) : B = [] ↔ W = [] := by
  rcases h with rfl | ⟨x, y, hx, hy, rfl, rfl⟩
  · exact Iff.rfl
  · simp [hx]
theorem Brd.len {W B : List UInt8} (h : Brd W B) : B.length ≤ W.length + 1 := by
  rcases h with rfl | ⟨x, y, hx, hy, rfl, rfl⟩
  · omega
  · simp; omega
/-- What stands behind a run: no digit, no underscore. -/
def stp (b : Nat) (u : List UInt8) : Prop := isD b (h0 u) = false ∧ h0 u ≠ 95
theorem run_dig {b : Nat} (hb : b ≤ 36) : ∀ (W u : List UInt8) (j : Bool), (∀ c ∈ W, isD b c = true) → rch b j (W ++ u) = W.length + rch b (j || !W.isEmpty) u ∧ rdg b j (W ++ u) = W ++ rdg b (j || !W.isEmpty) u
  | [], u, j, _ => by simp
  | c :: r, u, j, h => by
    have ih := run_dig hb r u true (fun x hx => h x (by simp [hx]))
    rw [List.cons_append, rch_digit (h c (by simp)), rdg_digit (h c (by simp)), ih.1, ih.2]
    simp
    omega
theorem run_stop0 {b : Nat} {u : List UInt8} (h : stp b u) (j : Bool) : rch b j u = 0 ∧ rdg b j u = [] := by
  cases u with
  | nil => exact ⟨rfl, rfl⟩
  | cons c r => exact ⟨rch_bad h.1 (fun z => h.2 z.1), rdg_bad h.1 (fun z => h.2 z.1)⟩
/-- The run of a barred row of digits. -/
theorem run_brd {b : Nat} (hb : b ≤ 36) {W B u : List UInt8} (hB : Brd W B) (hW : ∀ c ∈ W, isD b c = true) (hu : stp b u) (j : Bool) : rch b j (B ++ u) = B.length ∧ rdg b j (B ++ u) = W := by
  rcases hB with rfl | ⟨x, y, hx, hy, rfl, rfl⟩
  · have r := run_dig hb B u j hW
    have s := run_stop0 hu (j || !B.isEmpty)
    rw [r.1, r.2, s.1, s.2]
    simp
  · have kx : ∀ c ∈ x, isD b c = true := fun c hc => hW c (by simp [hc])
    have ky : ∀ c ∈ y, isD b c = true := fun c hc => hW c (by simp [hc])
    have r := run_dig hb x (95 :: (y ++ u)) j kx
    have ex : (j || !x.isEmpty) = true := by cases x with
      | nil => exact absurd rfl hx
      | cons a t => simp
    have hy1 : hdD b (y ++ u) = true := by cases y with
      | nil => exact absurd rfl hy
      | cons a t => exact ky a (by simp)
    have r2 := run_dig hb y u false ky
    have s := run_stop0 hu (false || !y.isEmpty)
    rw [show x ++ 95 :: y ++ u = x ++ 95 :: (y ++ u) by simp, r.1, r.2, ex, rch_bar (isD_bar b hb) rfl rfl hy1, rdg_bar (isD_bar b hb) rfl rfl hy1, r2.1, r2.2, s.1, s.2]
    first | (simp; done) | (simp; omega)
/-- A mantissa, put together. -/
def mtx (pt : Bool) (B C : List UInt8) : List UInt8 := B ++ (if pt = true then 46 :: C else [])
theorem stp_dot {b : Nat} (hb : b = 10 ∨ b = 16) (u : List UInt8) : stp b (46 :: u) := by
  rcases hb with rfl | rfl
  · exact ⟨(by decide : isD 10 46 = false), (by decide : (46 : UInt8) ≠ 95)⟩
  · exact ⟨(by decide : isD 16 46 = false), (by decide : (46 : UInt8) ≠ 95)⟩
theorem drop_app (B u : List UInt8) : (B ++ u).drop B.length = u := by simp
theorem mnt_brd {b : Nat} (hb : b = 10 ∨ b = 16) {W P B C u : List UInt8} (hB : Brd W B) (hC : Brd P C) (hW : ∀ c ∈ W, isD b c = true) (hP : ∀ c ∈ P, isD b c = true) (hu : stp b u) (hd : hdC u ≠ 46) (pt : Bool) (hpt : pt = false → P = []) (j : Bool) :
    mnt b j (mtx pt B C ++ u) = if W ++ P = [] then none else some (W, P, (mtx pt B C).length) := by
  have hb36 : b ≤ 36 := by omega
  cases pt with
  | true =>
    have e : mtx true B C ++ u = B ++ 46 :: (C ++ u) := by unfold mtx; simp
    have r := run_brd hb36 (u := 46 :: (C ++ u)) hB hW (stp_dot hb _) j
    have r2 := run_brd hb36 (u := u) hC hP hu false
    have el : (mtx true B C).length = B.length + 1 + C.length := by unfold mtx; simp; omega
    unfold mnt
    rw [e, r.1, r.2, drop_app, if_pos (show hdC (46 :: (C ++ u)) = 46 from rfl), show (B ++ 46 :: (C ++ u)).drop (B.length + 1) = C ++ u by rw [← List.drop_drop, drop_app]; rfl, r2.1, r2.2, el]
    by_cases z : W ++ P = []
    · have zw : W = [] ∧ P = [] := List.append_eq_nil_iff.1 z
      rw [if_pos z, if_pos (by rw [hB.nil.2 zw.1, hC.nil.2 zw.2]; rfl)]
    · rw [if_neg z, if_neg (fun q => z (by
        have b0 : B = [] := List.length_eq_zero_iff.1 (by omega)
        have c0 : C = [] := List.length_eq_zero_iff.1 (by omega)
        rw [hB.nil.1 b0, hC.nil.1 c0]; rfl))]
  | false =>
    have hP0 := hpt rfl
    subst hP0
    have e : mtx false B C = B := by unfold mtx; simp
    have r := run_brd hb36 (u := u) hB hW hu j
    unfold mnt
    rw [e, r.1, r.2, drop_app, if_neg hd, List.append_nil]
    by_cases z : W = []
    · rw [if_pos z, if_pos (by rw [hB.nil.2 z]; rfl)]
    · rw [if_neg z, if_neg (fun q => z (hB.nil.1 (List.length_eq_zero_iff.1 q)))]
/-- A sign, or none. -/
def sgL (l : List UInt8) : Prop := l = [] ∨ l = [43] ∨ l = [45]
theorem sg_of {S B : List UInt8} (hS : sgL S) (hB : h0 B ≠ 43 ∧ h0 B ≠ 45) : sgA (S ++ B) = S.length ∧ sgM (S ++ B) = decide (S = [45]) := by
  rcases hS with rfl | rfl | rfl
  · cases B with
    | nil => exact ⟨rfl, rfl⟩
    | cons c r =>
      have n1 : c ≠ 43 := hB.1
      have n2 : c ≠ 45 := hB.2
      exact ⟨sgA_no (fun z => z.elim n1 n2), beq_eq_false_iff_ne.mpr n2⟩
  · exact ⟨rfl, rfl⟩
  · exact ⟨rfl, rfl⟩
theorem dig_h0 {W B : List UInt8} (hB : Brd W B) (hW : ∀ c ∈ W, isD 10 c = true) : h0 B ≠ 43 ∧ h0 B ≠ 45 := by
  have k : ∀ l : List UInt8, (∀ c ∈ l, isD 10 c = true) → h0 l ≠ 43 ∧ h0 l ≠ 45 := fun l hl => by
    cases l with
    | nil => exact ⟨by decide, by decide⟩
    | cons c r =>
      have := hl c (by simp)
      refine ⟨fun z => ?_, fun z => ?_⟩
      · have z' : c = 43 := z
        rw [z'] at this; revert this; decide
      · have z' : c = 45 := z
        rw [z'] at this; revert this; decide
  rcases hB with rfl | ⟨x, y, hx, hy, rfl, rfl⟩
  · exact k B hW
  · cases x with
    | nil => exact absurd rfl hx
    | cons a t =>
      have := k [a] (fun c hc => hW c (by simp at hc; subst hc; simp))
      exact this
theorem stp_nil (b : Nat) (hb : b ≤ 36) : stp b [] := ⟨by
  show isD b 0 = false
  unfold isD
  rw [show dv (0 : UInt8).toNat = 36 by decide]
  exact decide_eq_false (by omega), by decide⟩
theorem exn_brd {L : Nat} {c : UInt8} (hc : (sml c).toNat = L) {S E D : List UInt8} (hS : sgL S) (hD : Brd E D) (hE : ∀ c ∈ E, isD 10 c = true) :
    exn L (c :: (S ++ D)) = if E = [] then none else some (if S = [45] then -(cnt 0 E : Int) else (cnt 0 E : Int), 1 + S.length + D.length) := by
  have s := sg_of hS (dig_h0 hD hE)
  have r := run_brd (b := 10) (by omega) (u := []) hD hE (stp_nil 10 (by omega)) false
  rw [List.append_nil] at r
  rw [exn_cons, if_pos hc]
  unfold exN
  rw [s.1, s.2, drop_app, r.1, r.2]
  by_cases z : E = []
  · rw [if_pos z, if_pos (by rw [hD.nil.2 z]; rfl)]
  · rw [if_neg z, if_neg (fun q => z (hD.nil.1 (List.length_eq_zero_iff.1 q)))]
    by_cases q : S = [45]
    · rw [if_pos q, if_pos (decide_eq_true q)]
    · rw [if_neg q, if_neg (by rw [decide_eq_false q]; decide)]
/-- An exponent, put together. -/
def etx (he : Bool) (c : UInt8) (S D : List UInt8) : List UInt8 := if he = true then c :: (S ++ D) else []
/-- The letters. -/
def ltr (hx gr : Bool) : UInt8 := if hx = true then (if gr = true then 80 else 112) else (if gr = true then 69 else 101)
def pre (hx gr : Bool) : List UInt8 := if hx = true then [48, if gr = true then 88 else 120] else []
/-- The text. -/
def gtx (hx gr pt he : Bool) (S B C ES D : List UInt8) : List UInt8 := S ++ (pre hx gr ++ (mtx pt B C ++ etx he (ltr hx gr) ES D))
/-- Is it in the grammar? -/
def ing (hx he : Bool) (W P E : List UInt8) : Bool := !(W ++ P).isEmpty && (!he || !E.isEmpty) && (!hx || he)
/-- Its parts. -/
def gPt (hx he : Bool) (S W P ES E : List UInt8) : Pt :=
  let e : Int := if he = true then (if ES = [45] then -(cnt 0 E : Int) else (cnt 0 E : Int)) else 0
  if hx = true then { hxPt W P e with neg := decide (S = [45]) } else { dePt W P e with neg := decide (S = [45]) }
theorem stp_etx {b : Nat} {hx gr he : Bool} (hb : b = bs hx) {S D : List UInt8} : stp b (etx he (ltr hx gr) S D) ∧ hdC (etx he (ltr hx gr) S D) ≠ 46 := by
  subst hb
  cases he with
  | false => exact ⟨stp_nil _ (bs_le hx), (by decide : (256 : Nat) ≠ 46)⟩
  | true =>
    cases hx with
    | false =>
      cases gr with
      | false => exact ⟨⟨(by decide : isD 10 101 = false), (by decide : (101 : UInt8) ≠ 95)⟩, (by decide : (101 : UInt8).toNat ≠ 46)⟩
      | true => exact ⟨⟨(by decide : isD 10 69 = false), (by decide : (69 : UInt8) ≠ 95)⟩, (by decide : (69 : UInt8).toNat ≠ 46)⟩
    | true =>
      cases gr with
      | false => exact ⟨⟨(by decide : isD 16 112 = false), (by decide : (112 : UInt8) ≠ 95)⟩, (by decide : (112 : UInt8).toNat ≠ 46)⟩
      | true => exact ⟨⟨(by decide : isD 16 80 = false), (by decide : (80 : UInt8) ≠ 95)⟩, (by decide : (80 : UInt8).toNat ≠ 46)⟩
theorem ltr_sml (hx gr : Bool) : (sml (ltr hx gr)).toNat = if hx = true then 112 else 101 := by cases hx <;> cases gr <;> decide
theorem etx_exn {hx gr he : Bool} {L : Nat} (hL : (sml (ltr hx gr)).toNat = L) {S E D : List UInt8} (hS : sgL S) (hD : Brd E D) (hE : ∀ c ∈ E, isD 10 c = true) :
    exn L (etx he (ltr hx gr) S D) = if he = true ∧ E ≠ [] then some (if S = [45] then -(cnt 0 E : Int) else (cnt 0 E : Int), (etx he (ltr hx gr) S D).length) else none := by
  cases he with
  | false => rw [if_neg (fun z => by cases z.1)]; rfl
  | true =>
    have := exn_brd hL hS hD hE
    have e : etx true (ltr hx gr) S D = ltr hx gr :: (S ++ D) := rfl
    rw [e, this]
    by_cases z : E = []
    · rw [if_pos z, if_neg (fun q => q.2 z)]
    · have el : (ltr hx gr :: (S ++ D)).length = 1 + S.length + D.length := by simp; omega
      rw [if_neg z, el]
      exact (if_pos ⟨rfl, z⟩).symm
theorem all_h0 {Q : UInt8 → Prop} (q0 : Q 0) {l : List UInt8} (h : ∀ c ∈ l, Q c) : Q (h0 l) := by
  cases l with
  | nil => exact q0
  | cons c r => exact h c (by simp)
/-- The bytes of a decimal that is put together. -/
def okB (c : UInt8) : Prop := c = 0 ∨ isD 10 c = true ∨ c = 95 ∨ c = 46 ∨ c = 101 ∨ c = 69 ∨ c = 43 ∨ c = 45
theorem okB_not {c : UInt8} (h : okB c) : (sml c).toNat ≠ 105 ∧ (sml c).toNat ≠ 110 ∧ (sml c).toNat ≠ 120 := by
  rcases h with h | h | h | h | h | h | h | h
  · subst h; decide
  · have hs := sml_nat c
    rw [isD_ten rfl] at h
    have := of_decide_eq_true h
    rw [if_neg (by omega)] at hs
    omega
  all_goals (subst h; decide)
theorem brd_ok {W B : List UInt8} (hB : Brd W B) (hW : ∀ c ∈ W, isD 10 c = true) : ∀ c ∈ B, okB c := by
  rcases hB with rfl | ⟨x, y, hx, hy, rfl, rfl⟩
  · exact fun c hc => Or.inr (Or.inl (hW c hc))
  · intro c hc
    rcases List.mem_append.1 hc with z | z
    · exact Or.inr (Or.inl (hW c (by simp [z])))
    · rcases List.mem_cons.1 z with z | z
      · exact Or.inr (Or.inr (Or.inl z))
      · exact Or.inr (Or.inl (hW c (by simp [z])))
theorem sg_ok {S : List UInt8} (hS : sgL S) : ∀ c ∈ S, okB c := by
  rcases hS with rfl | rfl | rfl
  · intro c hc; cases hc
  · intro c hc; simp at hc; subst hc; exact Or.inr (Or.inr (Or.inr (Or.inr (Or.inr (Or.inr (Or.inl rfl))))))
  · intro c hc; simp at hc; subst hc; exact Or.inr (Or.inr (Or.inr (Or.inr (Or.inr (Or.inr (Or.inr rfl))))))
/-- What a text that is put together is read as, with underscores or without. -/
theorem scn_gtx {hx gr pt he : Bool} {S W P ES E B C D : List UInt8} (hS : sgL S) (hES : sgL ES) (hB : Brd W B) (hC : Brd P C) (hD : Brd E D)
    (hW : ∀ c ∈ W, isD (bs hx) c = true) (hP : ∀ c ∈ P, isD (bs hx) c = true) (hE : ∀ c ∈ E, isD 10 c = true) (hpt : pt = false → P = []) :
    scn (gtx hx gr pt he S B C ES D) = if ing hx he W P E = true then some (gPt hx he S W P ES E) else none := by
  have hbb : bs hx = 10 ∨ bs hx = 16 := by cases hx <;> decide
  have st := stp_etx (b := bs hx) (hx := hx) (gr := gr) (he := he) rfl (S := ES) (D := D)
  have mn := fun j => mnt_brd hbb hB hC hW hP st.1 st.2 pt hpt j
  have ex := etx_exn (hx := hx) (gr := gr) (he := he) (ltr_sml hx gr) hES hD hE
  have gl : ∀ x : List UInt8, (S ++ x).length = S.length + x.length := fun x => List.length_append
  cases hx with
  | false =>
    have mn1 : mnt 10 false (mtx pt B C ++ etx he (ltr false gr) ES D) = _ := mn false
    have ex1 : exn 101 (etx he (ltr false gr) ES D) = _ := ex
    have hok : ∀ c ∈ mtx pt B C ++ etx he (ltr false gr) ES D, okB c := by
      intro c hc
      rcases List.mem_append.1 hc with z | z
      · unfold mtx at z
        rcases List.mem_append.1 z with z | z
        · exact brd_ok hB hW c z
        · split at z
          · rcases List.mem_cons.1 z with z | z
            · exact Or.inr (Or.inr (Or.inr (Or.inl z)))
            · exact brd_ok hC hP c z
          · cases z
      · unfold etx at z
        split at z
        · rcases List.mem_cons.1 z with z | z
          · unfold ltr at z
            cases gr with
            | true => exact Or.inr (Or.inr (Or.inr (Or.inr (Or.inr (Or.inl z)))))
            | false => exact Or.inr (Or.inr (Or.inr (Or.inr (Or.inl z))))
          · rcases List.mem_append.1 z with z | z
            · exact sg_ok hES c z
            · exact brd_ok hD hE c z
        · cases z
    obtain ⟨r, hr⟩ : ∃ r, r = mtx pt B C ++ etx he (ltr false gr) ES D := ⟨_, rfl⟩
    have eg : gtx false gr pt he S B C ES D = S ++ r := by rw [hr]; rfl
    have h00 := okB_not (all_h0 (Or.inl rfl) hok)
    have h01 := okB_not (all_h0 (l := (mtx pt B C ++ etx he (ltr false gr) ES D).drop 1) (Or.inl rfl) (fun c hc => hok c (List.mem_of_mem_drop hc)))
    rw [← hr] at mn1 h00 h01
    have nx : isX r = false := by rw [isX_h0]; exact decide_eq_false (fun z => h01.2.2 z.2)
    have nk : ∀ sg, kInf r = none ∧ kNan sg r = none := fun sg => h48_not (sg := sg) ⟨h00.1, h00.2.1⟩
    have sgr : h0 r ≠ 43 ∧ h0 r ≠ 45 := by
      rw [hr]
      have b0 := dig_h0 hB hW
      unfold mtx
      cases B with
      | cons c t => exact b0
      | nil =>
        cases pt with
        | true => exact ⟨by simp [h0], by simp [h0]⟩
        | false =>
          cases he with
          | true => cases gr <;> exact ⟨by simp [etx, ltr, h0], by simp [etx, ltr, h0]⟩
          | false => exact ⟨by simp [etx, h0], by simp [etx, h0]⟩
    have sg := sg_of hS sgr
    have ka : ∀ {x}, kDec r = some x → kAny (decide (0 < sgA (S ++ r))) ((S ++ r).drop (sgA (S ++ r))) = some x := fun hk => by
      rw [sg.1, drop_app]; exact kAny_4 (nk true).1 (nk _).2 (kHex_not nx) hk
    rw [eg]
    by_cases z : W ++ P = []
    · rw [if_pos z] at mn1
      have ei : ing false he W P E = false := by unfold ing; rw [z]; rfl
      rw [ei, if_neg (by decide)]
      refine scn_none (pfx_none ?_)
      rw [sg.1, drop_app]
      exact kAny_0 (nk true).1 (nk _).2 (kHex_not nx) (kDec_none mn1)
    · rw [if_neg z] at mn1
      have zi : (W ++ P).isEmpty = false := by cases q : W ++ P with
        | nil => exact absurd q z
        | cons a t => rfl
      have dr : r.drop (mtx pt B C).length = etx he (ltr false gr) ES D := by rw [hr, drop_app]
      have rl : r.length = (mtx pt B C).length + (etx he (ltr false gr) ES D).length := by rw [hr, List.length_append]
      by_cases y : he = true ∧ E ≠ []
      · rw [if_pos y] at ex1
        have ei : ing false he W P E = true := by
          unfold ing; rw [zi, y.1]
          cases E with
          | nil => exact absurd rfl y.2
          | cons a t => rfl
        have k := kDec_b mn1 (by rw [dr]; exact ex1)
        rw [ei, if_pos rfl, scn_some (pfx_some (ka k)), if_pos (by rw [sg.1, gl, rl]), sg.2]
        obtain ⟨rfl, _⟩ := y
        rfl
      · rw [if_neg y] at ex1
        have k := kDec_a mn1 (by rw [dr]; exact ex1)
        rw [scn_some (pfx_some (ka k)), sg.1, gl, rl, sg.2]
        cases he with
        | false =>
          have ei : ing false false W P E = true := by unfold ing; rw [zi]; rfl
          rw [if_pos (by simp [etx]), ei, if_pos rfl]
          rfl
        | true =>
          have e0 : E = [] := by
            cases E with
            | nil => rfl
            | cons a t => exact absurd ⟨rfl, by simp⟩ y
          have ei : ing false true W P E = false := by unfold ing; rw [zi, e0]; rfl
          rw [if_neg (by simp [etx]), ei, if_neg (by decide)]
  | true =>
    have mn1 : mnt 16 true (mtx pt B C ++ etx he (ltr true gr) ES D) = _ := mn true
    have ex1 : exn 112 (etx he (ltr true gr) ES D) = _ := ex
    obtain ⟨v, hv⟩ : ∃ v, v = mtx pt B C ++ etx he (ltr true gr) ES D := ⟨_, rfl⟩
    rw [← hv] at mn1
    obtain ⟨x, hxx⟩ : ∃ x : UInt8, x = if gr = true then 88 else 120 := ⟨_, rfl⟩
    have eg : gtx true gr pt he S B C ES D = S ++ (48 :: x :: v) := by rw [hv, hxx]; rfl
    have isx : isX (48 :: x :: v) = true := by
      unfold isX
      refine decide_eq_true ⟨rfl, ?_⟩
      show x.toNat = 120 ∨ x.toNat = 88
      cases gr with
      | true => right; rw [hxx]; rfl
      | false => left; rw [hxx]; rfl
    have nk : ∀ sg, kInf (48 :: x :: v) = none ∧ kNan sg (48 :: x :: v) = none := fun sg => h48_not (sg := sg) (show (sml 48).toNat ≠ 105 ∧ (sml 48).toNat ≠ 110 by decide)
    have sg := sg_of (S := S) (B := 48 :: x :: v) hS ⟨(by decide : (48 : UInt8) ≠ 43), (by decide : (48 : UInt8) ≠ 45)⟩
    have d2 : (48 :: x :: v).drop 2 = v := rfl
    rw [eg]
    have bad : kHex (48 :: x :: v) = none → scn (S ++ (48 :: x :: v)) = none := fun hk => by
      have xd := x_dec isx
      have k : kAny (decide (0 < sgA (S ++ (48 :: x :: v)))) ((S ++ (48 :: x :: v)).drop (sgA (S ++ (48 :: x :: v)))) = some (dePt [48] [] 0, 1) := by
        rw [sg.1, drop_app]; exact kAny_4 (nk true).1 (nk _).2 hk xd.2.2
      rw [scn_some (pfx_some k), if_neg (by rw [sg.1, gl]; simp)]
    by_cases z : W ++ P = []
    · rw [if_pos z] at mn1
      have ei : ing true he W P E = false := by unfold ing; rw [z]; rfl
      rw [ei, if_neg (by decide)]
      exact bad (kHex_a mn1)
    · rw [if_neg z] at mn1
      have zi : (W ++ P).isEmpty = false := by cases q : W ++ P with
        | nil => exact absurd q z
        | cons a t => rfl
      have dr : (48 :: x :: v).drop (2 + (mtx pt B C).length) = etx he (ltr true gr) ES D := by
        rw [← List.drop_drop, d2, hv, drop_app]
      by_cases y : he = true ∧ E ≠ []
      · rw [if_pos y] at ex1
        have ei : ing true he W P E = true := by
          unfold ing; rw [zi, y.1]
          cases E with
          | nil => exact absurd rfl y.2
          | cons a t => rfl
        have k := kHex_c isx (by rw [d2]; exact mn1) (by rw [dr]; exact ex1)
        have ka : ∀ {x'}, kHex (48 :: x :: v) = some x' → kAny (decide (0 < sgA (S ++ (48 :: x :: v)))) ((S ++ (48 :: x :: v)).drop (sgA (S ++ (48 :: x :: v)))) = some x' := fun hk => by
          rw [sg.1, drop_app]; exact kAny_3 (nk true).1 (nk _).2 hk
        rw [ei, if_pos rfl, scn_some (pfx_some (ka k)), if_pos (by rw [sg.1, gl, hv]; simp; omega), sg.2]
        obtain ⟨rfl, _⟩ := y
        rfl
      · rw [if_neg y] at ex1
        have ei : ing true he W P E = false := by
          unfold ing
          cases he with
          | false => simp
          | true =>
            cases E with
            | nil => simp
            | cons a t => exact absurd ⟨rfl, by simp⟩ y
        rw [ei, if_neg (by decide)]
        exact bad (kHex_b (by rw [d2]; exact mn1) (by rw [dr]; exact ex1))
end Go.Proofs.YtjgdbphhhplifaaDoor
