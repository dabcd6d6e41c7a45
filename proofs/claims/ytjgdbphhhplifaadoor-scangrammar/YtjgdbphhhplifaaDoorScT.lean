/-
  The document's Make of digits at the point 0: what it answers for every row of digits.
-/
import Derived.Test.YtjgdbphhhplifaaDoorScE
namespace Go.Proofs.YtjgdbphhhplifaaDoor
open Go.RowKit

theorem bl_get {l : List UInt8} {k : Nat} (h : k < l.length) : ∀ h' : k < (bl l).size, (bl l)[k]'h' = l[k]'h := fun _ => rfl
theorem bl_take_get {T : List UInt8} {j i : Nat} (hT : i < T.length) : ∀ hh : i < (bl (T.take j)).size, (bl (T.take j))[i]'hh = T[i]'hT := fun hh => by
  have h2 : i < (T.take j).length := hh
  have := List.getElem_take (xs := T) (i := i) (j := j) (h := h2)
  exact this
theorem shT_ne {D : List UInt8} (h : D ≠ []) (h0 : nz D = 0) : shT D ≠ [] ∧ (anz (D.drop 800) = false → 0 < trn (D.take 800)) := by
  cases D with
  | nil => exact absurd rfl h
  | cons c r =>
    have hc : c ≠ 48 := fun z => by subst z; rw [nz_yes] at h0; omega
    have k : 0 < trn ((c :: r).take 800) := by
      rw [show (c :: r).take 800 = c :: r.take 799 from rfl]
      show 0 < (if _ then _ else _)
      rw [if_neg (fun z => hc z.2)]; omega
    refine ⟨?_, fun _ => k⟩
    unfold shT
    split
    · rw [show (c :: r).take 800 = c :: r.take 799 from rfl]; simp
    · intro z
      have := congrArg List.length z
      rw [List.length_take] at this
      have := trn_le ((c :: r).take 800)
      simp at *
      omega
set_option maxRecDepth 100000 in
set_option maxHeartbeats 1000000 in
theorem rmake_none (l : List UInt8) (hl : l.length ≤ 2097152) (hd : ∀ c ∈ l, isD 10 c = true) (h0 : nz l = l.length) (w : World) :
    Calls Tryd.prog 37 #[.string (bl l), .int .i64 0, .bool false] w fun e w' => e = .returned (.tuple #[.agg #[.string ⟨#[]⟩, .int .i64 0, .bool false], .int .i64 0]) ∧ Below w.heap.size w w' := by
  have D := fun W => rdig_yes (bl l) (by rw [bl_size]; omega) (dg_list hd) W
  have hz := nz_le l
  have HA : Hid (∀ i (h : i < l.length), i < nz l → l[i]'h = 48) := nz_in l
  have HN : Hid (∀ h : nz l < l.length, l[nz l]'h ≠ 48) := nz_at l
  have HG : Hid ((bl l).size = l.length ∧ ∀ k (h : k < l.length) (h' : k < (bl l).size), (bl l)[k]'h' = l[k]'h) := ⟨rfl, fun _ _ _ => rfl⟩
  have hb : (bl l).size ≤ 2097152 := hl
  have hzb : nz l ≤ (bl l).size := hz
  have xz := bl_from l (nz l)
  rw [h0, List.drop_eq_nil_of_le (Nat.le_refl _), ← bl_size, show bl [] = ⟨#[]⟩ from rfl] at xz
  obtain ⟨z, hz2⟩ : ∃ z, z = nz l := ⟨_, rfl⟩
  have hzs : z = (bl l).size := by rw [hz2, h0]; rfl
  rw [← hz2] at HA hzb
  clear hz2 HN hl hd h0 hz
  generalize bl l = s at *
  go_enter Tryd.func37, Tryd.ntmps37
  go_wp2_with fail
  refine (D _).mono ?_
  rintro e w0 ⟨rfl, rfl⟩
  go_wp2
  go_loop [8] (fun iv => ∃ k : Nat, iv = .int .i64 (k : Int) ∧ k ≤ z) (fun iv => z - (intOf iv).toNat)
  case atStart => exact ⟨0, rfl, Nat.zero_le _⟩
  case round =>
    obtain ⟨k, rfl, hk⟩ := hrel
    by_cases c0 : k < z
    · have hks : k < s.size := by omega
      have hkl : k < l.length := by have := HG.out.1; omega
      have x0 : ((((s[k]'hks).toNat : Nat) : Int)) = 48 := by rw [HG.out.2 k hkl hks, HA.out k hkl c0]; rfl
      have i0 : (k : Int) < (s.size : Int) := by omega
      have i1 : (0 : Int) ≤ (k : Int) := by omega
      go_wp2
      go_round
      case rel => exact ⟨k + 1, by go_num, by omega⟩
      case measure => simp [intOf]; omega
    · obtain rfl : k = z := by omega
      have i0 : ¬ (k : Int) < (s.size : Int) := by omega
      have i2 : (k : Int) ≤ (s.size : Int) := by omega
      have i3 : (0 : Int) ≤ (k : Int) := by omega
      rw [← hzs] at xz
      have xz2 : s.extract k s.size = ⟨#[]⟩ := by rw [← hzs]; exact xz
      go_wp2
      go_loop [0] (fun v => v = .string ⟨#[]⟩) (fun _ => 0)
      case atStart => rfl
      case round =>
        subst hrel
        go_wp2
        refine bodyPost_ret (v := .tuple #[.agg #[.string ⟨#[]⟩, .int .i64 0, .bool false], .int .i64 0]) (by simp [results, Tryd.results37, go_sem]) rfl ⟨rfl, ?_⟩
        exact (Below.refl _ _).alloc (Nat.le_refl _) _
theorem u48ne {c : UInt8} (h : c ≠ 48) : ((c.toNat : Int) == 48) = false := beq_eq_false_iff_ne.mpr fun y => h (UInt8.toNat_inj.1 (Int.ofNat_inj.1 y))
theorem NZD : ∀ l : List UInt8, nz (l.drop (nz l)) = 0
  | [] => rfl
  | c :: r => by
    by_cases h : c = 48
    · subst h; rw [nz_yes, List.drop_succ_cons]; exact NZD r
    · rw [nz_no h, List.drop_zero, nz_no h]
set_option maxRecDepth 100000 in
set_option maxHeartbeats 2000000 in
theorem rmake_few (l : List UInt8) (hl : l.length ≤ 2097152) (hd : ∀ c ∈ l, isD 10 c = true) (h0 : nz l < l.length) (h8 : (l.drop (nz l)).length ≤ 800) (w : World) :
    Calls Tryd.prog 37 #[.string (bl l), .int .i64 0, .bool false] w fun e w' => e = .returned (.tuple #[.agg #[.string (bl ((l.drop (nz l)).take (trn (l.drop (nz l))))), .int .i64 (-(nz l : Int)), .bool false], .int .i64 0]) ∧ Below w.heap.size w w' := by
  have D := fun W => rdig_yes (bl l) (by rw [bl_size]; omega) (dg_list hd) W
  have hz := nz_le l
  have HA : Hid (∀ i (h : i < l.length), i < nz l → l[i]'h = 48) := nz_in l
  have HN : Hid (∀ h : nz l < l.length, l[nz l]'h ≠ 48) := nz_at l
  have HG : Hid ((bl l).size = l.length ∧ ∀ k (h : k < l.length) (h' : k < (bl l).size), (bl l)[k]'h' = l[k]'h) := ⟨rfl, fun _ _ _ => rfl⟩
  have hb : (bl l).size ≤ 2097152 := hl
  have hzb : nz l ≤ (bl l).size := hz
  have xz := bl_from l (nz l)
  have HLT : Hid (nz l < l.length) := h0
  have HLEN : Hid ((l.drop (nz l)).length ≤ 2097152) := (by omega : (l.drop (nz l)).length ≤ 2097152)
  have ht : 0 < trn (l.drop (nz l)) := by
    have := (shT_ne (D := l.drop (nz l)) (fun z => by have := congrArg List.length z; rw [List.length_drop] at this; simp at this; omega) (NZD l)).2 (by rw [List.drop_eq_nil_of_le h8]; rfl)
    rw [List.take_of_length_le h8] at this
    exact this
  have h8' : ¬ (800 : Int) < ((bl (l.drop (nz l))).size : Int) := by rw [bl_size]; omega
  have HT0 : Hid (∀ hh, ((bl ((l.drop (nz l)).take (trn (l.drop (nz l)))))[trn (l.drop (nz l)) - 1]'hh) ≠ 48) := fun hh => by
    rw [bl_take_get (by have := trn_le (l.drop (nz l)); omega) hh]; exact trn_at _ ht
  obtain ⟨z, hz2⟩ : ∃ z, z = nz l := ⟨_, rfl⟩
  rw [← hz2] at HA HN HLT HLEN hzb xz ht h8' HT0 ⊢
  clear hz2 hl hd h0 hz h8
  generalize l.drop z = T at *
  generalize bl l = s at *
  go_enter Tryd.func37, Tryd.ntmps37
  go_wp2_with fail
  refine (D _).mono ?_
  rintro e w0 ⟨rfl, rfl⟩
  go_wp2
  go_loop [8] (fun iv => ∃ k : Nat, iv = .int .i64 (k : Int) ∧ k ≤ z) (fun iv => z - (intOf iv).toNat)
  case atStart => exact ⟨0, rfl, Nat.zero_le _⟩
  case round =>
    obtain ⟨k, rfl, hk⟩ := hrel
    by_cases c0 : k < z
    · have hks : k < s.size := by omega
      have hkl : k < l.length := by have := HG.out.1; omega
      have x0 : ((((s[k]'hks).toNat : Nat) : Int)) = 48 := by rw [HG.out.2 k hkl hks, HA.out k hkl c0]; rfl
      have i0 : (k : Int) < (s.size : Int) := by omega
      have i1 : (0 : Int) ≤ (k : Int) := by omega
      go_wp2
      go_round
      case rel => exact ⟨k + 1, by go_num, by omega⟩
      case measure => simp [intOf]; omega
    · obtain rfl : k = z := by omega
      have hks : k < s.size := by have := HLT.out; have := HG.out.1; omega
      have hkl : k < l.length := HLT.out
      have x0 : ((((s[k]'hks).toNat : Nat) : Int) == 48) = false := by rw [HG.out.2 k hkl hks]; exact u48ne (HN.out hkl)
      have i0 : (k : Int) < (s.size : Int) := by omega
      have i1 : (0 : Int) ≤ (k : Int) := by omega
      have i2 : (k : Int) ≤ (s.size : Int) := by omega
      go_wp2
      go_loop [0] (fun v => ∃ j, v = .string (bl ((T).take j)) ∧ trn (T) ≤ j ∧ j ≤ (T).length) (fun v => textLen v)
      case atStart => exact ⟨(T).length, by rw [List.take_length], trn_le _, Nat.le_refl _⟩
      case round =>
        obtain ⟨j, rfl, hj1, hj2⟩ := hrel
        have HSZ : Hid ((bl ((T).take j)).size = j) := by show _ = _; rw [bl_size, List.length_take]; omega
        by_cases c1 : trn (T) < j
        · obtain ⟨i, rfl⟩ : ∃ i, j = i + 1 := ⟨j - 1, by omega⟩
          have hit : i < (T).length := by omega
          have e0 : ∀ hh, (((bl ((T).take (i + 1)))[i]'hh).toNat : Int) = 48 := fun hh => by
            rw [bl_take_get hit hh, trn_out _ i hit (by omega)]; rfl
          have cut : (bl ((T).take (i + 1))).extract 0 i = bl ((T).take i) := by rw [bl_to, List.take_take, Nat.min_eq_left (by omega)]
          have HM : Hid ((bl ((T).take i)).size = i) := by show _ = _; rw [bl_size, List.length_take]; omega
          generalize bl ((T).take (i + 1)) = X at *
          have hX : (X.size : Int) = (i : Int) + 1 := by have := HSZ.out; omega
          have hiX : i < X.size := by have := HSZ.out; omega
          have e1 := e0 hiX
          have ix : ((X.size : Int) - 1).toNat = i := by omega
          have ix2 : (X.size : Int) - 1 = (i : Int) := by omega
          have hpos : 0 < X.size := by omega
          have hbig : X.size ≤ 2097152 := by have := HSZ.out; have := HLEN.out; omega
          have HX : Hid (X.size = i + 1) := HSZ.out
          clear HSZ e0
          go_wp2
          go_round
          case rel => exact ⟨i, rfl, by omega, by omega⟩
          case measure =>
            show (bl ((T).take i)).size < X.size
            have a := HM.out
            have b := HX.out
            omega
        · obtain rfl : j = trn (T) := by omega
          have HX := HSZ.out
          have e9 := HT0.out
          generalize hXX : bl (T.take (trn T)) = X at *
          have HXX : Hid (bl (T.take (trn T)) = X) := hXX
          have hiX : trn T - 1 < X.size := by omega
          have e1 := u48ne (e9 hiX)
          have ix : ((X.size : Int) - 1).toNat = trn T - 1 := by omega
          have hpos : 0 < X.size := by omega
          have hbig : X.size ≤ 2097152 := by have := HLEN.out; omega
          have tz : ((X.size : Int) == 0) = false := beq_eq_false_iff_ne.mpr (by omega)
          have p1 : (0 : Int) < (X.size : Int) := by omega
          have k8 : k ≤ 2097152 := by omega
          clear hXX HX e9 HSZ
          generalize trn T - 1 = y at *
          go_wp2
          refine bodyPost_ret (v := .tuple #[.agg #[.string X, .int .i64 (-(k : Int)), .bool false], .int .i64 0]) (by simp [results, Tryd.results37, go_sem]) rfl ⟨by rw [HXX.out], ?_⟩
          exact (Below.refl _ _).alloc (Nat.le_refl _) _
set_option maxRecDepth 100000 in
set_option maxHeartbeats 4000000 in
theorem rmake_cut (l : List UInt8) (hl : l.length ≤ 2097152) (hd : ∀ c ∈ l, isD 10 c = true) (h0 : nz l < l.length) (h8 : 800 < (l.drop (nz l)).length) (hm : anz ((l.drop (nz l)).drop 800) = true) (w : World) :
    Calls Tryd.prog 37 #[.string (bl l), .int .i64 0, .bool false] w fun e w' => e = .returned (.tuple #[.agg #[.string (bl ((l.drop (nz l)).take 800)), .int .i64 (-(nz l : Int)), .bool true], .int .i64 0]) ∧ Below w.heap.size w w' := by
  have D := fun W => rdig_yes (bl l) (by rw [bl_size]; omega) (dg_list hd) W
  have hz := nz_le l
  have HA : Hid (∀ i (h : i < l.length), i < nz l → l[i]'h = 48) := nz_in l
  have HN : Hid (∀ h : nz l < l.length, l[nz l]'h ≠ 48) := nz_at l
  have HG : Hid ((bl l).size = l.length ∧ ∀ k (h : k < l.length) (h' : k < (bl l).size), (bl l)[k]'h' = l[k]'h) := ⟨rfl, fun _ _ _ => rfl⟩
  have hb : (bl l).size ≤ 2097152 := hl
  have hzb : nz l ≤ (bl l).size := hz
  have xz := bl_from l (nz l)
  have HLT : Hid (nz l < l.length) := h0
  have hdl : (l.drop (nz l)).length ≤ 2097152 := by rw [List.length_drop]; omega
  have HMORE : Hid (anz ((l.drop (nz l)).drop 800) = true) := hm
  have HU : Hid (800 < (bl (l.drop (nz l))).size ∧ (bl (l.drop (nz l))).size = (l.drop (nz l)).length ∧ ∀ k (h : k < (l.drop (nz l)).length) (h' : k < (bl (l.drop (nz l))).size), (bl (l.drop (nz l)))[k]'h' = (l.drop (nz l))[k]'h) := ⟨h8, rfl, fun _ _ _ => rfl⟩
  have h8' : (800 : Int) < ((bl (l.drop (nz l))).size : Int) := by rw [bl_size]; omega
  have hub : (bl (l.drop (nz l))).size ≤ 2097152 := hdl
  have x8 := bl_to (l.drop (nz l)) 800
  have h8s : ((bl ((l.drop (nz l)).take 800)).size : Int) = 800 := by rw [bl_size, List.length_take]; omega
  obtain ⟨z, hz2⟩ : ∃ z, z = nz l := ⟨_, rfl⟩
  rw [← hz2] at HA HN HLT hzb xz h8' HMORE HU hub x8 h8s ⊢
  clear hz2 hl hd h0 hz h8 hm hdl
  generalize l.drop z = T at *
  generalize bl T = u at *
  generalize bl l = s at *
  go_enter Tryd.func37, Tryd.ntmps37
  go_wp2_with fail
  refine (D _).mono ?_
  rintro e w0 ⟨rfl, rfl⟩
  go_wp2
  go_loop [8] (fun iv => ∃ k : Nat, iv = .int .i64 (k : Int) ∧ k ≤ z) (fun iv => z - (intOf iv).toNat)
  case atStart => exact ⟨0, rfl, Nat.zero_le _⟩
  case round =>
    obtain ⟨k, rfl, hk⟩ := hrel
    by_cases c0 : k < z
    · have hks : k < s.size := by omega
      have hkl : k < l.length := by have := HG.out.1; omega
      have x0 : ((((s[k]'hks).toNat : Nat) : Int)) = 48 := by rw [HG.out.2 k hkl hks, HA.out k hkl c0]; rfl
      have i0 : (k : Int) < (s.size : Int) := by omega
      have i1 : (0 : Int) ≤ (k : Int) := by omega
      go_wp2
      go_round
      case rel => exact ⟨k + 1, by go_num, by omega⟩
      case measure => simp [intOf]; omega
    · obtain rfl : k = z := by omega
      have hks : k < s.size := by have := HLT.out; have := HG.out.1; omega
      have hkl : k < l.length := HLT.out
      have x0 : ((((s[k]'hks).toNat : Nat) : Int) == 48) = false := by rw [HG.out.2 k hkl hks]; exact u48ne (HN.out hkl)
      have i0 : (k : Int) < (s.size : Int) := by omega
      have i1 : (0 : Int) ≤ (k : Int) := by omega
      have i2 : (k : Int) ≤ (s.size : Int) := by omega
      go_wp2
      go_loop [2, 9] (fun mv iv => ∃ i : Nat, 800 ≤ i ∧ i ≤ u.size ∧ iv = .int .i64 (i : Int) ∧ mv = .bool (anz ((T.take i).drop 800))) (fun _ iv => u.size - (intOf iv).toNat)
      case atStart => exact ⟨800, Nat.le_refl _, by have := HU.out; omega, rfl, by rw [List.drop_eq_nil_of_le (by rw [List.length_take]; omega)]; rfl⟩
      case round =>
        obtain ⟨i, hi1, hi2, rfl, rfl⟩ := hrel
        by_cases c1 : i < u.size
        · have hiT : i < T.length := by have := HU.out.2.1; omega
          have i4 : (i : Int) < (u.size : Int) := by omega
          have i5 : (0 : Int) ≤ (i : Int) := by omega
          have ui : u[i]'c1 = T[i]'hiT := HU.out.2.2 i hiT c1
          have HS : Hid (anz ((T.take (i + 1)).drop 800) = (anz ((T.take i).drop 800) || (T[i]'hiT != 48))) := by
            show _ = _
            rw [List.take_succ_eq_append_getElem hiT, List.drop_append_of_le_length (by rw [List.length_take]; omega)]
            unfold anz
            rw [List.any_append]; simp
          rcases Bool.eq_false_or_eq_true (anz ((T.take i).drop 800)) with q | q
          · rw [q] at HS ⊢
            go_wp2
            go_round
            case rel => exact ⟨i + 1, by omega, by omega, by go_num, by rw [HS.out]; rfl⟩
            case measure => simp [intOf]; omega
          · rw [q] at HS ⊢
            by_cases y : T[i]'hiT = 48
            · have x9 : ((((u[i]'c1).toNat : Nat) : Int)) = 48 := by rw [ui, y]; rfl
              have HS2 : Hid (anz ((T.take (i + 1)).drop 800) = false) := by have := HS.out; rw [y] at this; exact this
              clear ui HS y q
              go_wp2
              go_round
              case rel => exact ⟨i + 1, by omega, by omega, by go_num, by rw [HS2.out]⟩
              case measure => simp [intOf]; omega
            · have x9 : ((((u[i]'c1).toNat : Nat) : Int) == 48) = false := by rw [ui]; exact u48ne y
              have x8 : ((((u[i]'c1).toNat : Nat) : Int) != 48) = true := by rw [bne, x9]; rfl
              have HS2 : Hid (anz ((T.take (i + 1)).drop 800) = true) := by
                have := HS.out
                rw [show (T[i]'hiT != 48) = true from bne_iff_ne.mpr y] at this
                exact this
              clear ui HS y q x9
              go_wp2
              go_round
              case rel => exact ⟨i + 1, by omega, by omega, by go_num, by rw [HS2.out]⟩
              case measure => simp [intOf]; omega
        · obtain rfl : i = u.size := by omega
          have i4 : ¬ (u.size : Int) < (u.size : Int) := by omega
          have eT : anz ((T.take u.size).drop 800) = true := by rw [HU.out.2.1, List.take_length]; exact HMORE.out
          rw [eT]
          have i8 : (800 : Int) ≤ (u.size : Int) := by omega
          generalize hXX : bl (T.take 800) = X at *
          have HXX : Hid (bl (T.take 800) = X) := hXX
          have tz : ((X.size : Int) == 0) = false := beq_eq_false_iff_ne.mpr (by omega)
          have k8 : k ≤ 2097152 := by omega
          clear hXX eT
          go_wp2
          go_loop [0] (fun v => v = .string X) (fun _ => 0)
          case atStart => rfl
          case round =>
            subst hrel
            go_wp2
            refine bodyPost_ret (v := .tuple #[.agg #[.string X, .int .i64 (-(k : Int)), .bool true], .int .i64 0]) (by simp [results, Tryd.results37, go_sem]) rfl ⟨by rw [HXX.out], ?_⟩
            exact (Below.refl _ _).alloc (Nat.le_refl _) _
set_option maxRecDepth 100000 in
set_option maxHeartbeats 4000000 in
theorem rmake_long (l : List UInt8) (hl : l.length ≤ 2097152) (hd : ∀ c ∈ l, isD 10 c = true) (h0 : nz l < l.length) (h8 : 800 < (l.drop (nz l)).length) (hm : anz ((l.drop (nz l)).drop 800) = false) (w : World) :
    Calls Tryd.prog 37 #[.string (bl l), .int .i64 0, .bool false] w fun e w' => e = .returned (.tuple #[.agg #[.string (bl (((l.drop (nz l)).take 800).take (trn ((l.drop (nz l)).take 800)))), .int .i64 (-(nz l : Int)), .bool false], .int .i64 0]) ∧ Below w.heap.size w w' := by
  have D := fun W => rdig_yes (bl l) (by rw [bl_size]; omega) (dg_list hd) W
  have hz := nz_le l
  have HA : Hid (∀ i (h : i < l.length), i < nz l → l[i]'h = 48) := nz_in l
  have HN : Hid (∀ h : nz l < l.length, l[nz l]'h ≠ 48) := nz_at l
  have HG : Hid ((bl l).size = l.length ∧ ∀ k (h : k < l.length) (h' : k < (bl l).size), (bl l)[k]'h' = l[k]'h) := ⟨rfl, fun _ _ _ => rfl⟩
  have hb : (bl l).size ≤ 2097152 := hl
  have hzb : nz l ≤ (bl l).size := hz
  have xz := bl_from l (nz l)
  have HLT : Hid (nz l < l.length) := h0
  have hdl : (l.drop (nz l)).length ≤ 2097152 := by rw [List.length_drop]; omega
  have HMORE : Hid (anz ((l.drop (nz l)).drop 800) = false) := hm
  have HU : Hid (800 < (bl (l.drop (nz l))).size ∧ (bl (l.drop (nz l))).size = (l.drop (nz l)).length ∧ ∀ k (h : k < (l.drop (nz l)).length) (h' : k < (bl (l.drop (nz l))).size), (bl (l.drop (nz l)))[k]'h' = (l.drop (nz l))[k]'h) := ⟨h8, rfl, fun _ _ _ => rfl⟩
  have h8' : (800 : Int) < ((bl (l.drop (nz l))).size : Int) := by rw [bl_size]; omega
  have hub : (bl (l.drop (nz l))).size ≤ 2097152 := hdl
  have x8 := bl_to (l.drop (nz l)) 800
  have h8s : ((bl ((l.drop (nz l)).take 800)).size : Int) = 800 := by rw [bl_size, List.length_take]; omega
  have ht : 0 < trn ((l.drop (nz l)).take 800) := (shT_ne (D := l.drop (nz l)) (fun z => by have := congrArg List.length z; rw [List.length_drop] at this; simp at this; omega) (NZD l)).2 hm
  have HLEN : Hid (((l.drop (nz l)).take 800).length ≤ 2097152) := (by rw [List.length_take]; omega : ((l.drop (nz l)).take 800).length ≤ 2097152)
  have HT0 : Hid (∀ hh, ((bl (((l.drop (nz l)).take 800).take (trn ((l.drop (nz l)).take 800))))[trn ((l.drop (nz l)).take 800) - 1]'hh) ≠ 48) := fun hh => by
    rw [bl_take_get (by have := trn_le ((l.drop (nz l)).take 800); omega) hh]; exact trn_at _ ht
  obtain ⟨z, hz2⟩ : ∃ z, z = nz l := ⟨_, rfl⟩
  rw [← hz2] at HA HN HLT hzb xz h8' HMORE HU hub x8 h8s ht HLEN HT0 ⊢
  clear hz2 hl hd h0 hz h8 hm hdl
  generalize l.drop z = T at *
  generalize bl T = u at *
  generalize bl l = s at *
  go_enter Tryd.func37, Tryd.ntmps37
  go_wp2_with fail
  refine (D _).mono ?_
  rintro e w0 ⟨rfl, rfl⟩
  go_wp2
  go_loop [8] (fun iv => ∃ k : Nat, iv = .int .i64 (k : Int) ∧ k ≤ z) (fun iv => z - (intOf iv).toNat)
  case atStart => exact ⟨0, rfl, Nat.zero_le _⟩
  case round =>
    obtain ⟨k, rfl, hk⟩ := hrel
    by_cases c0 : k < z
    · have hks : k < s.size := by omega
      have hkl : k < l.length := by have := HG.out.1; omega
      have x0 : ((((s[k]'hks).toNat : Nat) : Int)) = 48 := by rw [HG.out.2 k hkl hks, HA.out k hkl c0]; rfl
      have i0 : (k : Int) < (s.size : Int) := by omega
      have i1 : (0 : Int) ≤ (k : Int) := by omega
      go_wp2
      go_round
      case rel => exact ⟨k + 1, by go_num, by omega⟩
      case measure => simp [intOf]; omega
    · obtain rfl : k = z := by omega
      have hks : k < s.size := by have := HLT.out; have := HG.out.1; omega
      have hkl : k < l.length := HLT.out
      have x0 : ((((s[k]'hks).toNat : Nat) : Int) == 48) = false := by rw [HG.out.2 k hkl hks]; exact u48ne (HN.out hkl)
      have i0 : (k : Int) < (s.size : Int) := by omega
      have i1 : (0 : Int) ≤ (k : Int) := by omega
      have i2 : (k : Int) ≤ (s.size : Int) := by omega
      go_wp2
      go_loop [2, 9] (fun mv iv => ∃ i : Nat, 800 ≤ i ∧ i ≤ u.size ∧ iv = .int .i64 (i : Int) ∧ mv = .bool (anz ((T.take i).drop 800))) (fun _ iv => u.size - (intOf iv).toNat)
      case atStart => exact ⟨800, Nat.le_refl _, by have := HU.out; omega, rfl, by rw [List.drop_eq_nil_of_le (by rw [List.length_take]; omega)]; rfl⟩
      case round =>
        obtain ⟨i, hi1, hi2, rfl, rfl⟩ := hrel
        by_cases c1 : i < u.size
        · have hiT : i < T.length := by have := HU.out.2.1; omega
          have i4 : (i : Int) < (u.size : Int) := by omega
          have i5 : (0 : Int) ≤ (i : Int) := by omega
          have ui : u[i]'c1 = T[i]'hiT := HU.out.2.2 i hiT c1
          have HS : Hid (anz ((T.take (i + 1)).drop 800) = (anz ((T.take i).drop 800) || (T[i]'hiT != 48))) := by
            show _ = _
            rw [List.take_succ_eq_append_getElem hiT, List.drop_append_of_le_length (by rw [List.length_take]; omega)]
            unfold anz
            rw [List.any_append]; simp
          rcases Bool.eq_false_or_eq_true (anz ((T.take i).drop 800)) with q | q
          · rw [q] at HS ⊢
            go_wp2
            go_round
            case rel => exact ⟨i + 1, by omega, by omega, by go_num, by rw [HS.out]; rfl⟩
            case measure => simp [intOf]; omega
          · rw [q] at HS ⊢
            by_cases y : T[i]'hiT = 48
            · have x9 : ((((u[i]'c1).toNat : Nat) : Int)) = 48 := by rw [ui, y]; rfl
              have HS2 : Hid (anz ((T.take (i + 1)).drop 800) = false) := by have := HS.out; rw [y] at this; exact this
              clear ui HS y q
              go_wp2
              go_round
              case rel => exact ⟨i + 1, by omega, by omega, by go_num, by rw [HS2.out]⟩
              case measure => simp [intOf]; omega
            · have x9 : ((((u[i]'c1).toNat : Nat) : Int) == 48) = false := by rw [ui]; exact u48ne y
              have x8 : ((((u[i]'c1).toNat : Nat) : Int) != 48) = true := by rw [bne, x9]; rfl
              have HS2 : Hid (anz ((T.take (i + 1)).drop 800) = true) := by
                have := HS.out
                rw [show (T[i]'hiT != 48) = true from bne_iff_ne.mpr y] at this
                exact this
              clear ui HS y q x9
              go_wp2
              go_round
              case rel => exact ⟨i + 1, by omega, by omega, by go_num, by rw [HS2.out]⟩
              case measure => simp [intOf]; omega
        · obtain rfl : i = u.size := by omega
          have i4 : ¬ (u.size : Int) < (u.size : Int) := by omega
          have eT : anz ((T.take u.size).drop 800) = false := by rw [HU.out.2.1, List.take_length]; exact HMORE.out
          rw [eT]
          have i8 : (800 : Int) ≤ (u.size : Int) := by omega
          have k8 : k ≤ 2097152 := by omega
          clear eT h8s
          generalize hYY : T.take 800 = Y at *
          have HYY : Hid (T.take 800 = Y) := hYY
          clear hYY
          go_wp2
          go_loop [0] (fun v => ∃ j, v = .string (bl ((Y).take j)) ∧ trn (Y) ≤ j ∧ j ≤ (Y).length) (fun v => textLen v)
          case atStart => exact ⟨(Y).length, by rw [List.take_length], trn_le _, Nat.le_refl _⟩
          case round =>
            obtain ⟨j, rfl, hj1, hj2⟩ := hrel
            have HSZ : Hid ((bl ((Y).take j)).size = j) := by show _ = _; rw [bl_size, List.length_take]; omega
            by_cases c1 : trn (Y) < j
            · obtain ⟨i, rfl⟩ : ∃ i, j = i + 1 := ⟨j - 1, by omega⟩
              have hit : i < (Y).length := by omega
              have e0 : ∀ hh, (((bl ((Y).take (i + 1)))[i]'hh).toNat : Int) = 48 := fun hh => by
                rw [bl_take_get hit hh, trn_out _ i hit (by omega)]; rfl
              have cut : (bl ((Y).take (i + 1))).extract 0 i = bl ((Y).take i) := by rw [bl_to, List.take_take, Nat.min_eq_left (by omega)]
              have HM : Hid ((bl ((Y).take i)).size = i) := by show _ = _; rw [bl_size, List.length_take]; omega
              generalize bl ((Y).take (i + 1)) = X at *
              have hX : (X.size : Int) = (i : Int) + 1 := by have := HSZ.out; omega
              have hiX : i < X.size := by have := HSZ.out; omega
              have e1 := e0 hiX
              have ix : ((X.size : Int) - 1).toNat = i := by omega
              have ix2 : (X.size : Int) - 1 = (i : Int) := by omega
              have hpos : 0 < X.size := by omega
              have hbig : X.size ≤ 2097152 := by have := HSZ.out; have := HLEN.out; omega
              have HX : Hid (X.size = i + 1) := HSZ.out
              clear HSZ e0
              go_wp2
              go_round
              case rel => exact ⟨i, rfl, by omega, by omega⟩
              case measure =>
                show (bl ((Y).take i)).size < X.size
                have a := HM.out
                have b := HX.out
                omega
            · obtain rfl : j = trn (Y) := by omega
              have HX := HSZ.out
              have e9 := HT0.out
              generalize hXX : bl (Y.take (trn Y)) = X at *
              have HXX : Hid (bl (Y.take (trn Y)) = X) := hXX
              have hiX : trn Y - 1 < X.size := by omega
              have e1 := u48ne (e9 hiX)
              have ix : ((X.size : Int) - 1).toNat = trn Y - 1 := by omega
              have hpos : 0 < X.size := by omega
              have hbig : X.size ≤ 2097152 := by have := HLEN.out; omega
              have tz : ((X.size : Int) == 0) = false := beq_eq_false_iff_ne.mpr (by omega)
              have p1 : (0 : Int) < (X.size : Int) := by omega
              clear hXX HX e9 HSZ
              generalize trn Y - 1 = y at *
              go_wp2
              refine bodyPost_ret (v := .tuple #[.agg #[.string X, .int .i64 (-(k : Int)), .bool false], .int .i64 0]) (by simp [results, Tryd.results37, go_sem]) rfl ⟨by rw [HYY.out, HXX.out], ?_⟩
              exact (Below.refl _ _).alloc (Nat.le_refl _) _
/-- The document's Make at the point 0. -/
theorem rmake_any (l : List UInt8) (hl : l.length ≤ 2097152) (hd : ∀ c ∈ l, isD 10 c = true) (w : World) :
    Calls Tryd.prog 37 #[.string (bl l), .int .i64 0, .bool false] w fun e w' => e = .returned (.tuple #[.agg #[.string (bl (shT (l.drop (nz l)))), .int .i64 (if nz l = l.length then 0 else -(nz l : Int)), .bool (anz ((l.drop (nz l)).drop 800))], .int .i64 0]) ∧ Below w.heap.size w w' := by
  by_cases h : nz l = l.length
  · rw [if_pos h, h, List.drop_eq_nil_of_le (Nat.le_refl _)]
    exact rmake_none l hl hd h w
  · have h0 : nz l < l.length := by have := nz_le l; omega
    rw [if_neg h]
    by_cases h8 : (l.drop (nz l)).length ≤ 800
    · have e : (l.drop (nz l)).drop 800 = [] := List.drop_eq_nil_of_le h8
      have := rmake_few l hl hd h0 h8 w
      unfold shT
      rw [e, show anz [] = false from rfl, if_neg (by decide), List.take_of_length_le h8]
      exact this
    · cases hm : anz ((l.drop (nz l)).drop 800) with
      | true =>
        have := rmake_cut l hl hd h0 (by omega) hm w
        unfold shT
        rw [if_pos hm]
        exact this
      | false =>
        have := rmake_long l hl hd h0 (by omega) hm w
        unfold shT
        rw [if_neg (by rw [hm]; decide)]
        exact this
end Go.Proofs.YtjgdbphhhplifaaDoor
