/-
  Noughts ahead and behind, and the point moved against the exponent, change nothing of a decimal; what is told may be: lists of bytes.
-/
import Derived.Test.YtjgdbphhhplifaaDoorScF
import Derived.Test.YtjgdbphhhplifaaDoorScT
namespace Go.Proofs.YtjgdbphhhplifaaDoor
open Go.RowKit

/-- Noughts. -/
def zrs (m : Nat) : List UInt8 := List.replicate m 48
theorem zrs_len (m : Nat) : (zrs m).length = m := by unfold zrs; simp
theorem zrs_succ (m : Nat) : zrs m ++ [48] = zrs (m + 1) := by unfold zrs; rw [List.replicate_succ']
theorem nz_zrs (m : Nat) (l : List UInt8) : nz (zrs m ++ l) = m + nz l := by
  unfold zrs
  induction m with
  | zero => simp
  | succ m ih => rw [List.replicate_succ, List.cons_append, nz_yes, ih]; omega
theorem nz_app : ∀ (a b : List UInt8), nz (a ++ b) = if nz a = a.length then a.length + nz b else nz a
  | [], b => by simp [nz]
  | c :: r, b => by
    by_cases h : c = 48
    · subst h
      have ih := nz_app r b
      rw [List.cons_append, nz_yes, nz_yes, ih]
      by_cases q : nz r = r.length
      · rw [if_pos q, if_pos (by simp [q])]; simp; omega
      · rw [if_neg q, if_neg (by simp; exact q)]
    · rw [List.cons_append, nz_no h, nz_no h, if_neg (by simp)]
theorem nz_all (m : Nat) : nz (zrs m) = m := by
  have := nz_zrs m []
  rw [List.append_nil] at this
  rw [this]; simp [nz]
theorem anz_app (a b : List UInt8) : anz (a ++ b) = (anz a || anz b) := by unfold anz; rw [List.any_append]
theorem anz_zrs (m : Nat) : anz (zrs m) = false := anz_no.2 (fun _ hc => List.eq_of_mem_replicate hc)
theorem zrs_take (m k : Nat) : (zrs m).take k = zrs (min k m) := by unfold zrs; rw [List.take_replicate]
theorem zrs_drop (m k : Nat) : (zrs m).drop k = zrs (m - k) := by unfold zrs; rw [List.drop_replicate]
theorem trn_zrs (k : Nat) : trn (zrs k) = 0 := trn_zero.2 (anz_zrs k)
theorem trn_app (k : Nat) : ∀ a : List UInt8, trn (a ++ zrs k) = trn a
  | [] => by rw [List.nil_append, trn_zrs]; rfl
  | c :: r => by
    have ih := trn_app k r
    show (if trn (r ++ zrs k) = 0 ∧ c = 48 then 0 else trn (r ++ zrs k) + 1) = (if trn r = 0 ∧ c = 48 then 0 else trn r + 1)
    rw [ih]
theorem anz_drop (D : List UInt8) (m : Nat) : anz ((D ++ zrs m).drop 800) = anz (D.drop 800) := by
  rw [List.drop_append, anz_app, zrs_drop, anz_zrs, Bool.or_false]
theorem shT_app (D : List UInt8) (m : Nat) : shT (D ++ zrs m) = shT D := by
  unfold shT
  rw [anz_drop]
  by_cases h : anz (D.drop 800) = true
  · rw [if_pos h, if_pos h]
    have : 800 ≤ D.length := by
      rcases Nat.lt_or_ge D.length 800 with z | z
      · rw [List.drop_eq_nil_of_le (by omega)] at h; cases h
      · exact z
    rw [List.take_append_of_le_length this]
  · rw [if_neg h, if_neg h, List.take_append, zrs_take, trn_app, List.take_append_of_le_length (trn_le _)]
theorem plD_id {W P : List UInt8} (h1 : ∀ c ∈ W, isD 10 c = true) (h2 : ∀ c ∈ P, isD 10 c = true) : plD W P = W ++ P := by
  unfold plD
  have : ∀ l : List UInt8, (∀ c ∈ l, isD 10 c = true) → l.map pln = l := by
    intro l hl
    rw [List.map_congr_left (g := id) (fun c hc => by unfold pln; rw [if_pos (hl c hc)]; rfl)]
    simp
  exact this _ (fun c hc => (List.mem_append.1 hc).elim (h1 c) (h2 c))
theorem ctI_id {n : Int} (h1 : -1099511627776 ≤ n) (h2 : n ≤ 1099511627776) : ctI n = n := by unfold ctI; omega
theorem dgF_id {W P : List UInt8} (h1 : ∀ c ∈ W, isD 10 c = true) (h2 : ∀ c ∈ P, isD 10 c = true) : dgF W P = (W ++ P).drop (nz (W ++ P)) := by unfold dgF; rw [plD_id h1 h2]
theorem mem_zrs {m : Nat} : ∀ c ∈ zrs m, isD 10 c = true := fun c hc => by rw [List.eq_of_mem_replicate hc]; decide
/-- Noughts ahead and behind. -/
theorem de_noughts {W P : List UInt8} (h1 : ∀ c ∈ W, isD 10 c = true) (h2 : ∀ c ∈ P, isD 10 c = true) (m : Nat) (e : Int) : deV (zrs m ++ W) (P ++ zrs m) e = deV W P e := by
  have k1 : ∀ c ∈ zrs m ++ W, isD 10 c = true := fun c hc => (List.mem_append.1 hc).elim (mem_zrs c) (h1 c)
  have k2 : ∀ c ∈ P ++ zrs m, isD 10 c = true := fun c hc => (List.mem_append.1 hc).elim (h2 c) (mem_zrs c)
  have e1 : zrs m ++ W ++ (P ++ zrs m) = zrs m ++ ((W ++ P) ++ zrs m) := by simp [List.append_assoc]
  have d0 := dgF_id h1 h2
  have d1 := dgF_id k1 k2
  rw [e1, nz_zrs, nz_app] at d1
  have p0 := plD_id h1 h2
  have p1 := plD_id k1 k2
  rw [e1] at p1
  by_cases q : nz (W ++ P) = (W ++ P).length
  · have z0 : dgF W P = [] := by rw [d0, q, List.drop_eq_nil_of_le (Nat.le_refl _)]
    have z1 : dgF (zrs m ++ W) (P ++ zrs m) = [] := by
      rw [d1, if_pos q, nz_all]
      exact List.drop_eq_nil_of_le (by simp only [List.length_append, zrs_len]; omega)
    rw [deV_zero z0, deV_zero z1]
  · rw [if_neg q] at d1
    have hz := nz_le (W ++ P)
    have d2 : dgF (zrs m ++ W) (P ++ zrs m) = dgF W P ++ zrs m := by
      rw [d1, d0, List.drop_append, List.drop_eq_nil_of_le (by rw [zrs_len]; omega), List.nil_append, zrs_len, show m + nz (W ++ P) - m = nz (W ++ P) by omega, List.drop_append_of_le_length hz]
    have n0 : dgF W P ≠ [] := by
      rw [d0]
      intro z
      have := congrArg List.length z
      rw [List.length_drop] at this
      simp only [List.length_nil] at this
      omega
    have n1 : dgF (zrs m ++ W) (P ++ zrs m) ≠ [] := by rw [d2]; simp [n0]
    have zz : nz (plD (zrs m ++ W) (P ++ zrs m)) = m + nz (plD W P) := by rw [p1, p0, nz_zrs, nz_app, if_neg q]
    unfold deV dcT dcP dcC
    rw [if_neg n1, if_neg n0, d2, shT_app, anz_drop, zz]
    have : ctI e + ((zrs m ++ W).length : Int) - ((m + nz (plD W P) : Nat) : Int) = ctI e + (W.length : Int) - (nz (plD W P) : Int) := by
      rw [List.length_append, zrs_len]; omega
    rw [this]
/-- The point moved to the end. -/
theorem de_right {W P : List UInt8} (h1 : ∀ c ∈ W, isD 10 c = true) (h2 : ∀ c ∈ P, isD 10 c = true) {e : Int} (he : -1073741824 ≤ e) (he2 : e ≤ 1073741824) (hl : W.length + P.length ≤ 2000) : deV (W ++ P) [] (e - P.length) = deV W P e := by
  have k1 : ∀ c ∈ W ++ P, isD 10 c = true := fun c hc => (List.mem_append.1 hc).elim (h1 c) (h2 c)
  have p1 : plD (W ++ P) [] = plD W P := by rw [plD_id k1 (fun c hc => by cases hc), plD_id h1 h2, List.append_nil]
  have d1 : dgF (W ++ P) [] = dgF W P := by unfold dgF; rw [p1]
  unfold deV dcT dcP dcC
  rw [d1, p1, ctI_id (n := e - P.length) (by omega) (by omega), ctI_id (n := e) (by omega) (by omega), List.length_append]
  have : e - (P.length : Int) + ((W.length + P.length : Nat) : Int) - (nz (plD W P) : Int) = e + (W.length : Int) - (nz (plD W P) : Int) := by omega
  rw [this]
/-- The point moved to the begin. -/
theorem de_left {W P : List UInt8} (h1 : ∀ c ∈ W, isD 10 c = true) (h2 : ∀ c ∈ P, isD 10 c = true) {e : Int} (he : -1073741824 ≤ e) (he2 : e ≤ 1073741824) (hl : W.length + P.length ≤ 2000) : deV [] (W ++ P) (e + W.length) = deV W P e := by
  have k1 : ∀ c ∈ W ++ P, isD 10 c = true := fun c hc => (List.mem_append.1 hc).elim (h1 c) (h2 c)
  have p1 : plD [] (W ++ P) = plD W P := by rw [plD_id (fun c hc => by cases hc) k1, plD_id h1 h2, List.nil_append]
  have d1 : dgF [] (W ++ P) = dgF W P := by unfold dgF; rw [p1]
  unfold deV dcT dcP dcC
  rw [d1, p1, ctI_id (n := e + W.length) (by omega) (by omega), ctI_id (n := e) (by omega) (by omega)]
  have : e + (W.length : Int) + ((([] : List UInt8).length : Nat) : Int) - (nz (plD W P) : Int) = e + (W.length : Int) - (nz (plD W P) : Int) := by simp
  rw [this]
theorem take_head {l : List UInt8} {k : Nat} (hl : 0 < l.length) : ∀ hh : 0 < (l.take k).length, (l.take k)[0]'hh = l[0]'hl := fun _ => List.getElem_take
/-- What is told may be. -/
theorem de_valid (W P : List UInt8) (e : Int) : VD (bl (dcT W P)) (dcP W P e) (dcC W P) := by
  by_cases q : dgF W P = []
  · left
    unfold dcT dcP dcC
    rw [q, if_pos rfl]
    exact ⟨rfl, rfl, rfl⟩
  · right
    have hz : nz (dgF W P) = 0 := NZD (plD W P)
    obtain ⟨ne, nt⟩ := shT_ne q hz
    have hmem := dgF_mem W P
    have hlen : 0 < (dgF W P).length := List.length_pos_iff.2 q
    have hfirst : (dgF W P)[0]'hlen ≠ 48 := by
      have := nz_at (dgF W P) (by rw [hz]; exact hlen)
      simpa [hz] using this
    have sub : ∀ c ∈ shT (dgF W P), c ∈ dgF W P := fun c hc => by
      unfold shT at hc
      split at hc
      · exact List.mem_of_mem_take hc
      · exact List.mem_of_mem_take (List.mem_of_mem_take hc)
    have l8 : (shT (dgF W P)).length ≤ 800 := by
      unfold shT
      split
      · rw [List.length_take]; omega
      · rw [List.length_take, List.length_take]; omega
    have hp : 0 < (shT (dgF W P)).length := List.length_pos_iff.2 ne
    have dp := ctI_in (ctI e + W.length - nz (plD W P))
    refine ⟨hp, l8, dg_list (fun c hc => hmem c (sub c hc)), ?_, ?_, ?_, ?_⟩
    · intro z
      apply hfirst
      have z' : (shT (dgF W P))[0]'hp = 48 := UInt8.toNat_inj.1 z
      rw [← z']
      by_cases c : anz ((dgF W P).drop 800) = true
      · have e1 : shT (dgF W P) = (dgF W P).take 800 := by unfold shT; rw [if_pos c]
        have : ∀ (l m : List UInt8) (h : l = m) (a : 0 < l.length) (b : 0 < m.length), l[0]'a = m[0]'b := fun l m h a b => by subst h; rfl
        rw [this _ _ e1 hp (by rw [← e1]; exact hp)]
        exact (take_head hlen _).symm
      · have e1 : shT (dgF W P) = ((dgF W P).take 800).take (trn ((dgF W P).take 800)) := by unfold shT; rw [if_neg c]
        have : ∀ (l m : List UInt8) (h : l = m) (a : 0 < l.length) (b : 0 < m.length), l[0]'a = m[0]'b := fun l m h a b => by subst h; rfl
        have t0 := nt (by simpa using c)
        have h8 : 0 < ((dgF W P).take 800).length := by rw [List.length_take]; omega
        rw [this _ _ e1 hp (by rw [← e1]; exact hp), take_head h8, take_head hlen]
    · by_cases c : anz ((dgF W P).drop 800) = true
      · right; exact c
      · left
        have c' : anz ((dgF W P).drop 800) = false := by simpa using c
        have t0 := nt c'
        have e1 : shT (dgF W P) = ((dgF W P).take 800).take (trn ((dgF W P).take 800)) := by unfold shT; rw [if_neg c]
        have el : (shT (dgF W P)).length = trn ((dgF W P).take 800) := by rw [e1, List.length_take]; have := trn_le ((dgF W P).take 800); omega
        have := trn_at ((dgF W P).take 800) t0
        intro z
        apply this
        have z' : (shT (dgF W P))[(shT (dgF W P)).length - 1]'(by omega) = 48 := UInt8.toNat_inj.1 z
        have gen : ∀ (l m : List UInt8) (h : l = m) (i j : Nat) (a : i < l.length) (b : j < m.length), i = j → l[i]'a = m[j]'b := fun l m h i j a b hij => by subst h; subst hij; rfl
        rw [gen _ _ e1 _ (trn ((dgF W P).take 800) - 1) (by omega) (by rw [← e1]; omega) (by rw [el])] at z'
        rw [List.getElem_take] at z'
        exact z'
    · unfold dcP; rw [if_neg q]; exact dp.1
    · unfold dcP; rw [if_neg q]; exact dp.2
end Go.Proofs.YtjgdbphhhplifaaDoor
