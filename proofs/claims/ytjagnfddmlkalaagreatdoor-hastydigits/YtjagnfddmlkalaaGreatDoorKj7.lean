/-
  Holds: VNatO.
-/
import Derived.Test.YtjagnfddmlkalaaGreatDoorRows
import Derived.Laws.Externs
import Derived.WalkKit
import Derived.WalkSpells
import Derived.WalkLawsBesides
import Derived.Lib.Mul64
import Derived.Deep.OwnRows
import Derived.Laws.CopyOwn
import Derived.BigQuiet
import Derived.Deep.RegionHeld3
import Derived.Lib.TrailingZeros
import Derived.Lib.ItoaNum
import Derived.Deep.LoopGhost
import Derived.Test.YtjagnfddmlkalaaGreatDoorKj6
set_option maxRecDepth 100000
set_option maxHeartbeats 4000000
namespace Go.Proofs.YtjagnfddmlkalaaGreatDoor
open Go.RowKit
def turned (f : Nat → Value) (n k : Nat) : Nat → Value := fun t => if t < n ∧ (t < k ∨ n - 1 - k < t) then f (n - 1 - t) else f t
theorem turned_zero (f : Nat → Value) (n t : Nat) : turned f n 0 t = f t := by unfold turned; rw [if_neg]; omega
theorem turned_end {f : Nat → Value} {n k t : Nat} (h : n ≤ 2 * k + 1) (hk : 2 * k ≤ n) (ht : t < n) : turned f n k t = f (n - 1 - t) := by
 unfold turned
 by_cases c : t < k ∨ n - 1 - k < t
 · rw [if_pos ⟨ht, c⟩]
 · rw [if_neg (fun q => c q.2), show n - 1 - t = t by omega]
theorem reverse_any {w : World} {g cap n c : Nat} {f : Nat → Value} {h : Nat → Nat} (R : w.rowIs g 5 cap f) (hf : ∀ i, i < n → f i = .int .u8 ((h i : Nat) : Int)) (hn : n ≤ cap) (hc : n ≤ 1000000) :
 Calls Tryz.prog 101 #[.slice (some ⟨g, 0, none⟩) n c] w fun e w' => e = .returned (.tuple #[]) ∧ w.grownBy w' (some g) ∧ ∃ f' : Nat → Value, w'.rowIs g 5 cap f' ∧ ∀ t, t < n → f' t = f (n - 1 - t) := by
 have HH : Hid (∀ i, i < n → f i = .int .u8 ((h i : Nat) : Int)) := hf
 clear hf
 go_enter Tryz.func101, Tryz.ntmps101
 go_wp2
 go_loopw [2, 3] (fun a b wr => ∃ k : Nat, a = .int .i64 (k : Int) ∧ b = .int .i64 ((n : Int) - 1 - (k : Int)) ∧ 2 * k ≤ n ∧ wr.rowIs g 5 cap (turned f n k) ∧ w.grownBy wr (some g)) (fun a _ _ => n - (intOf a).toNat)
 case atStart => exact ⟨0, rfl, by congr 1; simp, by omega, R.congr fun i _ => by rw [turned_zero], World.grownBy.refl _ _⟩
 case round =>
  obtain ⟨k, rfl, rfl, hk, R', hgr⟩ := hrel
  have HR : Hid (wr.rowIs g 5 cap (turned f n k) ∧ w.grownBy wr (some g)) := ⟨R', hgr⟩
  by_cases c1 : 2 * k + 1 < n
  · obtain ⟨jj, hjj⟩ : ∃ jj, k + jj + 1 = n := ⟨n - 1 - k, by omega⟩
    have cz := R'.cell (i := k) (by omega)
    have fz := R'.frozen k
    have cj := R'.cell (i := jj) (by omega)
    have fj := R'.frozen jj
    have nkj : ¬ (k = jj) := by omega
    have njk : ¬ (jj = k) := by omega
    have hlt : (k : Int) < (jj : Int) := by omega
    have hjn : jj < n := by omega
    have hkn : k < n := by omega
    have a1 : turned f n k k = f k := by unfold turned; rw [if_neg (by omega)]
    have a2 : turned f n k jj = f jj := by unfold turned; rw [if_neg (by omega)]
    rw [a1, HH.out k hkn] at cz
    rw [a2, HH.out jj hjn] at cj
    rw [show (n : Int) - 1 - (k : Int) = (jj : Int) by omega]
    clear R' hgr a1 a2
    go_wp2
    go_region
    all_goals
     go_wp2
     go_roundw
     case rel =>
      refine ⟨k + 1, by go_num, by congr 1; omega, by omega, ?_, by first | exact grown_set (grown_set HR.out.2 _) _ | exact grown_drew (grown_set (grown_set HR.out.2 _) _)⟩
      have q : ∀ W : World, W.rowIs g 5 cap (turned f n k) → ((W.setCell ⟨g, k, none⟩ (.int .u8 ((h jj : Nat) : Int))).setCell ⟨g, jj, none⟩ (.int .u8 ((h k : Nat) : Int))).rowIs g 5 cap (turned f n (k + 1)) := fun W hw => by
       rw [← HH.out k hkn, ← HH.out jj hjn]
       refine ((hw.set k _).set jj _).congr fun i hi => ?_
       by_cases x : i = jj
       · rw [if_pos x, x]; unfold turned; rw [if_pos (by omega), show n - 1 - jj = k by omega]
       · rw [if_neg x]
         by_cases y : i = k
         · rw [if_pos y, y]; unfold turned; rw [if_pos (by omega), show n - 1 - k = jj by omega]
         · rw [if_neg y]
           unfold turned
           by_cases z : i < n ∧ (i < k ∨ n - 1 - k < i)
           · rw [if_pos z, if_pos (by omega)]
           · rw [if_neg z, if_neg (by omega)]
      first | exact q _ HR.out.1 | exact (q _ HR.out.1).drew
     case measure => simp [intOf]; omega
  · have hlt : ¬ ((k : Int) < (n : Int) - 1 - (k : Int)) := by omega
    clear R' hgr
    go_wp2
    refine bodyPost_end (v := .tuple #[]) (by simp [results, Tryz.results101, go_sem]) rfl ⟨rfl, HR.out.2, turned f n k, HR.out.1, fun t ht => turned_end (by omega) hk ht⟩
theorem bytes_list (s : ByteArray) : s.toList = s.data.toList := by
  have go : ∀ (n i : Nat) (r : List UInt8), n = s.size - i → ByteArray.toList.loop s i r = r.reverse ++ s.data.toList.drop i := by
    intro n
    induction n with
    | zero =>
      intro i r h
      rw [ByteArray.toList.loop, if_neg (by omega), List.drop_eq_nil_of_le (by simpa using (show s.size ≤ i by omega))]
      simp
    | succ n ih =>
      intro i r h
      have hi : i < s.size := by omega
      have hl : i < s.data.toList.length := by simpa using hi
      rw [ByteArray.toList.loop, if_pos hi, ih (i + 1) _ (by omega), List.drop_eq_getElem_cons hl, List.reverse_cons, List.append_assoc]
      congr 1
      simp only [List.singleton_append, List.cons.injEq, and_true]
      simp [ByteArray.get!, hi]
  show ByteArray.toList.loop s 0 [] = _
  simpa using go s.size 0 [] (by omega)
def textLen : Value → Nat | .string s => s.size | _ => 0
theorem ext_zero (s : ByteArray) : s.extract 0 s.size = s := by
 apply ByteArray.ext
 simp
theorem ext_size {s : ByteArray} {k : Nat} (h : k ≤ s.size) : (s.extract k s.size).size = s.size - k := by
 rw [ByteArray.size_extract]; omega
theorem ext_cut {s : ByteArray} {k : Nat} : (s.extract k s.size).extract 1 (s.extract k s.size).size = s.extract (k + 1) s.size := by
 apply ByteArray.ext
 rw [ByteArray.data_extract, ByteArray.data_extract, ByteArray.data_extract, Array.extract_extract, ByteArray.size_extract]
 congr 1
 omega
theorem ext_head {s : ByteArray} {k : Nat} (h : k < s.size) : ∀ hh, ((s.extract k s.size)[0]'hh).toNat = (s[k]'h).toNat := by
 intro hh
 rw [ByteArray.getElem_extract]
 rfl
theorem trimByte_any (s : ByteArray) (hs : s.size ≤ 9223372036854775807) (m : Nat) (hm : m ≤ s.size) (h1 : ∀ i, (h : i < m) → (s[i]'(by omega)).toNat = 48) (h2 : (h : m < s.size) → (s[m]'h).toNat ≠ 48) (w : World) :
 Calls Tryz.prog 126 #[.string s, .int .u8 48] w fun e w' => e = .returned (.string (s.extract m s.size)) ∧ w' = w := by
 go_enter Tryz.func126, Tryz.ntmps126
 have HH : Hid ((∀ i, (h : i < m) → (s[i]'(by omega)).toNat = 48) ∧ ((h : m < s.size) → (s[m]'h).toNat ≠ 48)) := ⟨h1, h2⟩
 clear h1 h2
 go_wp2
 go_loop [0] (fun v => ∃ k : Nat, v = .string (s.extract k s.size) ∧ k ≤ m) (fun v => textLen v)
 case atStart => exact ⟨0, by rw [ext_zero], Nat.zero_le _⟩
 case round =>
  obtain ⟨k, rfl, hk⟩ := hrel
  have sz := ext_size (s := s) (k := k) (by omega)
  have cut := ext_cut (s := s) (k := k)
  by_cases c1 : k < m
  · have e0 := ext_head (s := s) (k := k) (by omega)
    rw [HH.out.1 k c1] at e0
    have HS : Hid ((s.extract k s.size).extract 1 (s.extract k s.size).size = s.extract (k + 1) s.size ∧ (s.extract k s.size).size = s.size - k) := ⟨cut, sz⟩
    have hpos : 0 < (s.extract k s.size).size := by omega
    have hbig : (s.extract k s.size).size ≤ 9223372036854775807 := by omega
    obtain ⟨T2, hT2⟩ : ∃ T, s.extract (k + 1) s.size = T := ⟨_, rfl⟩
    obtain ⟨T, hT⟩ : ∃ T, s.extract k s.size = T := ⟨_, rfl⟩
    rw [hT2] at cut
    rw [hT] at cut e0 hpos hbig ⊢
    have HT : Hid (s.extract k s.size = T ∧ s.extract (k + 1) s.size = T2) := ⟨hT, hT2⟩
    clear sz hT hT2
    go_wp2
    go_round
    case rel => exact ⟨k + 1, by rw [HT.out.2], by omega⟩
    case measure =>
     have a := HS.out
     rw [HT.out.1, HT.out.2] at a
     show T2.size < T.size
     have b := ext_size (s := s) (k := k + 1) (by omega)
     rw [HT.out.2] at b
     omega
  · obtain rfl : k = m := by omega
    have HT : Hid (k ≤ k) := hk
    clear hk c1
    by_cases c2 : k < s.size
    · have e0 := ext_head (s := s) (k := k) c2
      have hne := HH.out.2 c2
      obtain ⟨v, hv⟩ : ∃ v, (s[k]'c2).toNat = v := ⟨_, rfl⟩
      rw [hv] at e0 hne
      have hne' : ((v : Int) == 48) = false := beq_eq_false_iff_ne.mpr (by omega)
      have hpos : 0 < (s.extract k s.size).size := by omega
      have hbig : (s.extract k s.size).size ≤ 9223372036854775807 := by omega
      obtain ⟨T, hT⟩ : ∃ T, s.extract k s.size = T := ⟨_, rfl⟩
      have HTT : Hid (s.extract k s.size = T) := hT
      rw [hT] at e0 hpos hbig ⊢
      clear sz cut hv hne hT
      go_wp2
      go_ret
      exact ⟨by rw [HTT.out]; rfl, rfl⟩
    · have hz : (s.extract k s.size).size = 0 := by omega
      obtain ⟨T, hT⟩ : ∃ T, s.extract k s.size = T := ⟨_, rfl⟩
      have HTT : Hid (s.extract k s.size = T) := hT
      rw [hT] at hz ⊢
      clear sz cut hT
      go_wp2
      go_ret
      exact ⟨by rw [HTT.out]; rfl, rfl⟩
theorem trimLeft_any (s : ByteArray) (hs : s.size ≤ 9223372036854775807) (m : Nat) (hm : m ≤ s.size) (h0 : 0 < s.size) (h1 : ∀ i, (h : i < m) → (s[i]'(by omega)).toNat = 48) (h2 : (h : m < s.size) → (s[m]'h).toNat ≠ 48) (w : World) :
 Calls Tryz.prog 102 #[.string s, .string ⟨#[48]⟩] w fun e w' => e = .returned (.string (s.extract m s.size)) ∧ w' = w := by
 have T := trimByte_any s hs m hm h1 h2
 have hE : s.toList.isEmpty = false := by
  rw [bytes_list]
  cases q : s.data.toList with
  | nil => exact absurd (show s.size = 0 by have := congrArg List.length q; simpa using this) (by omega)
  | cons a r => rfl
 clear h1 h2
 have e48 : ∀ hh, ((⟨#[48]⟩ : ByteArray)[0]'hh).toNat = 48 := fun _ => rfl
 go_enter Tryz.func102, Tryz.ntmps102
 go_wp2_with fail
 refine (T _).mono ?_
 rintro e wa ⟨rfl, rfl⟩
 go_wp2
 go_ret
 exact ⟨rfl, rfl⟩
end Go.Proofs.YtjagnfddmlkalaaGreatDoor
