/-
  Holds: VNatO VNatN.
-/
import Derived.Test.YtohhmobfmmeohaaGreatDoorRows
import Derived.Laws.Externs
import Derived.WalkKit
import Derived.WalkSpells
import Derived.WalkLawsBesides
import Derived.Lib.Mul64
import Derived.Deep.OwnRows
import Derived.Laws.CopyOwn
import Derived.BigQuiet
import Derived.Deep.RegionHeld3
import Derived.Lib.TrailingZeros
import Derived.Lib.ItoaNum
import Derived.Deep.LoopGhost
import Derived.Test.YtohhmobfmmeohaaGreatDoorKi6
set_option maxRecDepth 100000
set_option maxHeartbeats 4000000
namespace Go.Proofs.YtohhmobfmmeohaaGreatDoor
open Go.RowKit
def turned (f : Nat → Value) (n k : Nat) : Nat → Value := fun t => if t < n ∧ (t < k ∨ n - 1 - k < t) then f (n - 1 - t) else f t
theorem turned_zero (f : Nat → Value) (n t : Nat) : turned f n 0 t = f t := by unfold turned; rw [if_neg]; omega
theorem turned_end {f : Nat → Value} {n k t : Nat} (h : n ≤ 2 * k + 1) (hk : 2 * k ≤ n) (ht : t < n) : turned f n k t = f (n - 1 - t) := by
 unfold turned
 by_cases c : t < k ∨ n - 1 - k < t
 · rw [if_pos ⟨ht, c⟩]
 · rw [if_neg (fun q => c q.2), show n - 1 - t = t by omega]
theorem reverse_any {w : World} {g cap n c : Nat} {f : Nat → Value} {h : Nat → Nat} (R : w.rowIs g 5 cap f) (hf : ∀ i, i < n → f i = .int .u8 ((h i : Nat) : Int)) (hn : n ≤ cap) (hc : n ≤ 1000000) :
 Calls Tryz.prog 94 #[.slice (some ⟨g, 0, none⟩) n c] w fun e w' => e = .returned (.tuple #[]) ∧ w.grownBy w' (some g) ∧ ∃ f' : Nat → Value, w'.rowIs g 5 cap f' ∧ ∀ t, t < n → f' t = f (n - 1 - t) := by
 have HH : Hid (∀ i, i < n → f i = .int .u8 ((h i : Nat) : Int)) := hf
 clear hf
 go_enter Tryz.func94, Tryz.ntmps94
 go_wp2
 go_loopw [2, 3] (fun a b wr => ∃ k : Nat, a = .int .i64 (k : Int) ∧ b = .int .i64 ((n : Int) - 1 - (k : Int)) ∧ 2 * k ≤ n ∧ wr.rowIs g 5 cap (turned f n k) ∧ w.grownBy wr (some g)) (fun a _ _ => n - (intOf a).toNat)
 case atStart => exact ⟨0, rfl, by congr 1; simp, by omega, R.congr fun i _ => by rw [turned_zero], World.grownBy.refl _ _⟩
 case round =>
  obtain ⟨k, rfl, rfl, hk, R', hgr⟩ := hrel
  have HR : Hid (wr.rowIs g 5 cap (turned f n k) ∧ w.grownBy wr (some g)) := ⟨R', hgr⟩
  by_cases c1 : 2 * k + 1 < n
  · obtain ⟨jj, hjj⟩ : ∃ jj, k + jj + 1 = n := ⟨n - 1 - k, by omega⟩
    have cz := R'.cell (i := k) (by omega)
    have fz := R'.frozen k
    have cj := R'.cell (i := jj) (by omega)
    have fj := R'.frozen jj
    have nkj : ¬ (k = jj) := by omega
    have njk : ¬ (jj = k) := by omega
    have hlt : (k : Int) < (jj : Int) := by omega
    have hjn : jj < n := by omega
    have hkn : k < n := by omega
    have a1 : turned f n k k = f k := by unfold turned; rw [if_neg (by omega)]
    have a2 : turned f n k jj = f jj := by unfold turned; rw [if_neg (by omega)]
    rw [a1, HH.out k hkn] at cz
    rw [a2, HH.out jj hjn] at cj
    rw [show (n : Int) - 1 - (k : Int) = (jj : Int) by omega]
    clear R' hgr a1 a2
    go_wp2
    go_region
    all_goals
     go_wp2
     go_roundw
     case rel =>
      refine ⟨k + 1, by go_num, by congr 1; omega, by omega, ?_, by first | exact grown_set (grown_set HR.out.2 _) _ | exact grown_drew (grown_set (grown_set HR.out.2 _) _)⟩
      have q : ∀ W : World, W.rowIs g 5 cap (turned f n k) → ((W.setCell ⟨g, k, none⟩ (.int .u8 ((h jj : Nat) : Int))).setCell ⟨g, jj, none⟩ (.int .u8 ((h k : Nat) : Int))).rowIs g 5 cap (turned f n (k + 1)) := fun W hw => by
       rw [← HH.out k hkn, ← HH.out jj hjn]
       refine ((hw.set k _).set jj _).congr fun i hi => ?_
       by_cases x : i = jj
       · rw [if_pos x, x]; unfold turned; rw [if_pos (by omega), show n - 1 - jj = k by omega]
       · rw [if_neg x]
         by_cases y : i = k
         · rw [if_pos y, y]; unfold turned; rw [if_pos (by omega), show n - 1 - k = jj by omega]
         · rw [if_neg y]
           unfold turned
           by_cases z : i < n ∧ (i < k ∨ n - 1 - k < i)
           · rw [if_pos z, if_pos (by omega)]
           · rw [if_neg z, if_neg (by omega)]
      first | exact q _ HR.out.1 | exact (q _ HR.out.1).drew
     case measure => simp [intOf]; omega
  · have hlt : ¬ ((k : Int) < (n : Int) - 1 - (k : Int)) := by omega
    clear R' hgr
    go_wp2
    refine bodyPost_end (v := .tuple #[]) (by simp [results, Tryz.results94, go_sem]) rfl ⟨rfl, HR.out.2, turned f n k, HR.out.1, fun t ht => turned_end (by omega) hk ht⟩
theorem bytes_list (s : ByteArray) : s.toList = s.data.toList := by
  have go : ∀ (n i : Nat) (r : List UInt8), n = s.size - i → ByteArray.toList.loop s i r = r.reverse ++ s.data.toList.drop i := by
    intro n
    induction n with
    | zero =>
      intro i r h
      rw [ByteArray.toList.loop, if_neg (by omega), List.drop_eq_nil_of_le (by simpa using (show s.size ≤ i by omega))]
      simp
    | succ n ih =>
      intro i r h
      have hi : i < s.size := by omega
      have hl : i < s.data.toList.length := by simpa using hi
      rw [ByteArray.toList.loop, if_pos hi, ih (i + 1) _ (by omega), List.drop_eq_getElem_cons hl, List.reverse_cons, List.append_assoc]
      congr 1
      simp only [List.singleton_append, List.cons.injEq, and_true]
      simp [ByteArray.get!, hi]
  show ByteArray.toList.loop s 0 [] = _
  simpa using go s.size 0 [] (by omega)
def textLen : Value → Nat | .string s => s.size | _ => 0
theorem ext_zero (s : ByteArray) : s.extract 0 s.size = s := by
 apply ByteArray.ext
 simp
theorem ext_size {s : ByteArray} {k : Nat} (h : k ≤ s.size) : (s.extract k s.size).size = s.size - k := by
 rw [ByteArray.size_extract]; omega
theorem ext_cut {s : ByteArray} {k : Nat} : (s.extract k s.size).extract 1 (s.extract k s.size).size = s.extract (k + 1) s.size := by
 apply ByteArray.ext
 rw [ByteArray.data_extract, ByteArray.data_extract, ByteArray.data_extract, Array.extract_extract, ByteArray.size_extract]
 congr 1
 omega
theorem ext_head {s : ByteArray} {k : Nat} (h : k < s.size) : ∀ hh, ((s.extract k s.size)[0]'hh).toNat = (s[k]'h).toNat := by
 intro hh
 rw [ByteArray.getElem_extract]
 rfl
theorem trimByte_any (s : ByteArray) (hs : s.size ≤ 9223372036854775807) (m : Nat) (hm : m ≤ s.size) (h1 : ∀ i, (h : i < m) → (s[i]'(by omega)).toNat = 48) (h2 : (h : m < s.size) → (s[m]'h).toNat ≠ 48) (w : World) :
 Calls Tryz.prog 111 #[.string s, .int .u8 48] w fun e w' => e = .returned (.string (s.extract m s.size)) ∧ w' = w := by
 go_enter Tryz.func111, Tryz.ntmps111
 have HH : Hid ((∀ i, (h : i < m) → (s[i]'(by omega)).toNat = 48) ∧ ((h : m < s.size) → (s[m]'h).toNat ≠ 48)) := ⟨h1, h2⟩
 clear h1 h2
 go_wp2
 go_loop [0] (fun v => ∃ k : Nat, v = .string (s.extract k s.size) ∧ k ≤ m) (fun v => textLen v)
 case atStart => exact ⟨0, by rw [ext_zero], Nat.zero_le _⟩
 case round =>
  obtain ⟨k, rfl, hk⟩ := hrel
  have sz := ext_size (s := s) (k := k) (by omega)
  have cut := ext_cut (s := s) (k := k)
  by_cases c1 : k < m
  · have e0 := ext_head (s := s) (k := k) (by omega)
    rw [HH.out.1 k c1] at e0
    have HS : Hid ((s.extract k s.size).extract 1 (s.extract k s.size).size = s.extract (k + 1) s.size ∧ (s.extract k s.size).size = s.size - k) := ⟨cut, sz⟩
    have hpos : 0 < (s.extract k s.size).size := by omega
    have hbig : (s.extract k s.size).size ≤ 9223372036854775807 := by omega
    obtain ⟨T2, hT2⟩ : ∃ T, s.extract (k + 1) s.size = T := ⟨_, rfl⟩
    obtain ⟨T, hT⟩ : ∃ T, s.extract k s.size = T := ⟨_, rfl⟩
    rw [hT2] at cut
    rw [hT] at cut e0 hpos hbig ⊢
    have HT : Hid (s.extract k s.size = T ∧ s.extract (k + 1) s.size = T2) := ⟨hT, hT2⟩
    clear sz hT hT2
    go_wp2
    go_round
    case rel => exact ⟨k + 1, by rw [HT.out.2], by omega⟩
    case measure =>
     have a := HS.out
     rw [HT.out.1, HT.out.2] at a
     show T2.size < T.size
     have b := ext_size (s := s) (k := k + 1) (by omega)
     rw [HT.out.2] at b
     omega
  · obtain rfl : k = m := by omega
    have HT : Hid (k ≤ k) := hk
    clear hk c1
    by_cases c2 : k < s.size
    · have e0 := ext_head (s := s) (k := k) c2
      have hne := HH.out.2 c2
      obtain ⟨v, hv⟩ : ∃ v, (s[k]'c2).toNat = v := ⟨_, rfl⟩
      rw [hv] at e0 hne
      have hne' : ((v : Int) == 48) = false := beq_eq_false_iff_ne.mpr (by omega)
      have hpos : 0 < (s.extract k s.size).size := by omega
      have hbig : (s.extract k s.size).size ≤ 9223372036854775807 := by omega
      obtain ⟨T, hT⟩ : ∃ T, s.extract k s.size = T := ⟨_, rfl⟩
      have HTT : Hid (s.extract k s.size = T) := hT
      rw [hT] at e0 hpos hbig ⊢
      clear sz cut hv hne hT
      go_wp2
      go_ret
      exact ⟨by rw [HTT.out]; rfl, rfl⟩
    · have hz : (s.extract k s.size).size = 0 := by omega
      obtain ⟨T, hT⟩ : ∃ T, s.extract k s.size = T := ⟨_, rfl⟩
      have HTT : Hid (s.extract k s.size = T) := hT
      rw [hT] at hz ⊢
      clear sz cut hT
      go_wp2
      go_ret
      exact ⟨by rw [HTT.out]; rfl, rfl⟩
theorem trimLeft_any (s : ByteArray) (hs : s.size ≤ 9223372036854775807) (m : Nat) (hm : m ≤ s.size) (h0 : 0 < s.size) (h1 : ∀ i, (h : i < m) → (s[i]'(by omega)).toNat = 48) (h2 : (h : m < s.size) → (s[m]'h).toNat ≠ 48) (w : World) :
 Calls Tryz.prog 95 #[.string s, .string ⟨#[48]⟩] w fun e w' => e = .returned (.string (s.extract m s.size)) ∧ w' = w := by
 have T := trimByte_any s hs m hm h1 h2
 have hE : s.toList.isEmpty = false := by
  rw [bytes_list]
  cases q : s.data.toList with
  | nil => exact absurd (show s.size = 0 by have := congrArg List.length q; simpa using this) (by omega)
  | cons a r => rfl
 clear h1 h2
 have e48 : ∀ hh, ((⟨#[48]⟩ : ByteArray)[0]'hh).toNat = 48 := fun _ => rfl
 go_enter Tryz.func95, Tryz.ntmps95
 go_wp2_with fail
 refine (T _).mono ?_
 rintro e wa ⟨rfl, rfl⟩
 go_wp2
 go_ret
 exact ⟨rfl, rfl⟩
def ch (d : Nat) : Nat := if d < 10 then 48 + d else 87 + d
def chV (xs : List Nat) : List Value := xs.map fun d => Value.int .u8 ((ch d : Nat) : Int)
def lows (b x k : Nat) : List Nat := (List.range k).map fun j => x / b ^ j % b
theorem lows_succ (b x k : Nat) : lows b x (k + 1) = lows b x k ++ [x / b ^ k % b] := by unfold lows; rw [List.range_succ, List.map_append]; rfl
theorem ch_at {r : Nat} (h : r < 36) : ∀ hh, ((⟨#[48, 49, 50, 51, 52, 53, 54, 55, 56, 57, 97, 98, 99, 100, 101, 102, 103, 104, 105, 106, 107, 108, 109, 110, 111, 112, 113, 114, 115, 116, 117, 118, 119, 120, 121, 122]⟩ : ByteArray)[r]'hh).toNat = ch r := by
 have key : ∀ r : Fin 36, ((⟨#[48, 49, 50, 51, 52, 53, 54, 55, 56, 57, 97, 98, 99, 100, 101, 102, 103, 104, 105, 106, 107, 108, 109, 110, 111, 112, 113, 114, 115, 116, 117, 118, 119, 120, 121, 122]⟩ : ByteArray)[r.val]'r.isLt).toNat = ch r.val := by decide
 intro hh
 exact key ⟨r, h⟩
theorem chV_append (xs ys : List Nat) : chV (xs ++ ys) = chV xs ++ chV ys := by unfold chV; rw [List.map_append]
theorem und_text : Tryz.prog.underlying 109 = some (.slice 5) := by kernel_rfl
theorem info_u8 : (Tryz.prog.info? 5).map (fun i => (i.zero, i.size, i.bytes)) = some (some (.int .u8 0), 1, 1) := by kernel_rfl
theorem lowest_any {w : World} {base n : Nat} {tv : Value} {xs : List Nat} (ho : w.ownsRow base 5 1 tv n (chV xs)) (hb : base ≤ w.heap.size) (x : Nat) (hx : x < B) (k : Nat) (hk : k ≤ 64) (hn : n ≤ 100000) (b : Nat) (h1 : 2 ≤ b) (h2 : b ≤ 36) :
 Calls Tryz.prog 92 #[tv, .int .u64 (x : Int), .int .i64 (k : Int), .int .i64 (b : Int)] w fun e w' => ∃ v', e = .returned v' ∧ w'.ownsRow base 5 1 v' (n + k) (chV (xs ++ lows b x k)) ∧ Below base w w' := by
 obtain ⟨i0, hi, hz0, hz1, hz2⟩ := info_parts info_u8
 go_enter Tryz.func92, Tryz.ntmps92
 go_wp2
 go_loopw [0, 1, 10] (fun v y i wr => ∃ j z : Nat, y = .int .u64 (z : Int) ∧ i = .int .i64 (j : Int) ∧ Hid (z = x / b ^ j) ∧ j ≤ k ∧ z < B ∧ wr.ownsRow base 5 1 v (n + j) (chV (xs ++ lows b x j)) ∧ Below base w wr) (fun _ _ i _ => k - (intOf i).toNat)
 case atStart => exact ⟨0, x, rfl, rfl, by show x = x / b ^ 0; rw [Nat.pow_zero, Nat.div_one], Nat.zero_le _, hx, by rw [show lows b x 0 = [] from rfl, List.append_nil]; exact ho, Below.refl _ _⟩
 case round =>
  obtain ⟨j, z, rfl, rfl, HZ, hj, hzB, hown, hbl⟩ := hrel
  have hsz := hbl.size
  by_cases c1 : j < k
  · have m1 : (z : Int) % (b : Int) = ((z % b : Nat) : Int) := by rw [Int.natCast_emod]
    have m2 : (z : Int) / (b : Int) = ((z / b : Nat) : Int) := by rw [Int.natCast_ediv]
    have hr : z % b < 36 := Nat.lt_of_lt_of_le (Nat.mod_lt _ (by omega)) h2
    have HQ : Hid (z / b = x / b ^ (j + 1) ∧ z % b = x / b ^ j % b ∧ z / b < B) := ⟨by rw [HZ.out, Nat.div_div_eq_div_mul, Nat.pow_succ], by rw [HZ.out], Nat.lt_of_le_of_lt (Nat.div_le_self _ _) hzB⟩
    generalize z % b = r at *
    generalize z / b = q at *
    unfold B at hzB
    have hc := ch_at hr
    obtain ⟨cr, hcr⟩ : ∃ c, ch r = c := ⟨_, rfl⟩
    rw [hcr] at hc
    have HC : Hid (ch r = cr) := hcr
    have HO : Hid (wr.ownsRow base 5 1 _ (n + j) (chV (xs ++ lows b x j)) ∧ Below base w wr) := ⟨hown, hbl⟩
    clear hcr
    go_wp2_with (first
     | (at_builtin; refine wpList_append_own _ rfl _ _ 109 rfl base 5 i0 (.int .u8 0) 1 1 und_text hi hz0 hz1 hz2 rfl (by decide) _ _ _ rfl (hown.alloc _) ⟨wr.heap.size, 0, none⟩ 1 1 [.int .u8 (cr : Int)] rfl rfl ?c1 ?c2 ?c3 ?c4 ?c5 ?_)
     | go_in)
    case c2 => rfl
    case c3 => unfold maxLen; omega
    case c4 => omega
    case c5 => omega
    intro v' w3 hown' hgrow hnil
    have hb3 : Below base w w3 := (hbl.alloc (by omega) _).grown hgrow (by rw [World.size_alloc]; omega) (fun q hq => (hown.lt q hq).1)
    have HO3 : Hid (w3.ownsRow base 5 1 v' (n + j + 1) (chV (xs ++ lows b x j) ++ [.int .u8 (cr : Int)]) ∧ Below base w w3) := ⟨hown', hb3⟩
    clear hown' hb3 hgrow hnil hown hbl
    go_wp2
    go_roundw
    case rel =>
     refine ⟨j + 1, q, by congr 1; rw [IntKind.wrap_u64]; have := HQ.out.2.2; unfold B at this; omega, by go_num, HQ.out.1, by omega, HQ.out.2.2, ?_, HO3.out.2⟩
     rw [lows_succ, ← List.append_assoc, chV_append, ← HQ.out.2.1]
     have e : chV [r] = [.int .u8 (cr : Int)] := by unfold chV; rw [List.map_cons, HC.out]; rfl
     rw [e]
     exact HO3.out.1
    case measure => simp [intOf]; omega
  · obtain rfl : j = k := by omega
    go_wp2
    go_ret
    exact ⟨_, rfl, hown, hbl⟩
end Go.Proofs.YtohhmobfmmeohaaGreatDoor
