/-
  Holds: LawPHex.
-/
import Derived.Test.YtiminkommimgdabGreatDoorShelf
import Derived.Lib.ItoaNum
import Derived.WalkSpells
import Derived.WalkLawsBesides
import Derived.Lib.Mul64
import Derived.Lib.TrailingZeros
import Derived.Deep.OwnRows
import Derived.Laws.CopyOwn
import Derived.BigQuiet
import Derived.Deep.RegionHeld3
import Derived.Deep.LoopGhost
import Derived.Deep.AppendLies
import Derived.Deep.DeepCutAuto
import Derived.Stop.Asserts
import Derived.RowKitTokens
import Derived.Lib.BufferWrite
import Derived.Lib.ConvBytes
import Derived.Test.YtiminkommimgdabGreatDoorRows
import Derived.Laws.EntriesVeiled
import Derived.Test.YtiminkommimgdabGreatDoorZ47
import Derived.Test.YtiminkommimgdabGreatDoorZ48
set_option maxRecDepth 100000
set_option maxHeartbeats 4000000
namespace Go.Proofs.YtiminkommimgdabGreatDoor
open Go.RowKit
def Dgs (b m : Nat) (a : List UInt8) (n : Nat) : Prop := (a = [] ∧ n = m) ∨ (a ≠ [] ∧ ((n = 0 ∧ a = fl b m) ∨ (0 < n ∧ fl b m = fl b n ++ a)))
theorem Dgs.step {b m n : Nat} (hb : 2 ≤ b) {a : List UInt8} (h : Dgs b m a n) (c : a = [] ∨ 0 < n) : Dgs b m (dg8 (n % b) :: a) (n / b) := by
 have key : fl b n = if n < b then [dg8 (n % b)] else fl b (n / b) ++ [dg8 (n % b)] := by
  split
  · rename_i q
    rw [Nat.mod_eq_of_lt q]
    exact fl_small q
  · rename_i q
    exact fl_big hb (by omega)
 have full : fl b m = fl b n ++ a := by
  rcases h with ⟨rfl, rfl⟩ | ⟨h1, ⟨h2, h3⟩ | ⟨h2, h3⟩⟩
  · rw [List.append_nil]
  · rcases c with c | c
    · exact absurd c h1
    · omega
  · exact h3
 refine .inr ⟨by simp, ?_⟩
 by_cases q : n < b
 · rw [if_pos q] at key
   refine .inl ⟨Nat.div_eq_of_lt q, ?_⟩
   rw [full, key]
   rfl
 · rw [if_neg q] at key
   refine .inr ⟨Nat.div_pos (by omega) (by omega), ?_⟩
   rw [full, key, List.append_assoc]
   rfl
theorem Dgs.done {b m : Nat} {a : List UInt8} (h : Dgs b m a 0) (c : a ≠ []) : a = fl b m := by
 rcases h with ⟨h, _⟩ | ⟨_, ⟨_, h⟩ | ⟨h, _⟩⟩
 · exact absurd h c
 · exact h
 · omega
theorem Dgs.len {b m n : Nat} {a : List UInt8} (h : Dgs b m a n) : a.length ≤ (fl b m).length := by
 rcases h with ⟨rfl, _⟩ | ⟨_, ⟨_, rfl⟩ | ⟨_, h⟩⟩
 · exact Nat.zero_le _
 · exact Nat.le_refl _
 · rw [h, List.length_append]
   omega
theorem fl10_le {e : Nat} (h : e ≤ 5000) : (fl 10 e).length ≤ 64 := by
 have d := fl_dlen (b := 10) (by decide) e
 apply Classical.byContradiction
 intro n
 have q := d.2.2.1 (fun z => by have := d.2.1 z; omega)
 have p : 10 ^ 10 ≤ 10 ^ ((fl 10 e).length - 1) := Nat.pow_le_pow_right (by decide) (by omega)
 have e10 : (10 : Nat) ^ 10 = 10000000000 := by decide
 omega
def emp : Value → Nat
 | .string s => if s.size = 0 then 1 else 0
 | _ => 0
def c16 : ByteArray := ⟨#[48, 49, 50, 51, 52, 53, 54, 55, 56, 57, 97, 98, 99, 100, 101, 102]⟩
def c10 : ByteArray := ⟨#[48, 49, 50, 51, 52, 53, 54, 55, 56, 57]⟩
theorem at16 {k : Nat} (h : k < 16) : c16.extract k (k + 1) = sB [dg8 k] := by
 have : ∀ i : Fin 16, c16.extract i.val (i.val + 1) = sB [dg8 i.val] := by decide +kernel
 exact this ⟨k, h⟩
theorem at10 {k : Nat} (h : k < 10) : c10.extract k (k + 1) = sB [dg8 k] := by
 have : ∀ i : Fin 10, c10.extract i.val (i.val + 1) = sB [dg8 i.val] := by decide +kernel
 exact this ⟨k, h⟩
theorem num_erv {k : Int} {c s : ByteArray} {v : Value} {w : World} (h : ErV w k c s v) (hg : ErrT w) : Calls Tryz.prog 8 #[v] w fun o w' => o = .returned (.int .i64 k) ∧ Below w.heap.size w w' := by
 rcases h with ⟨rfl, rfl⟩ | ⟨_, h⟩
 · exact num_nil w
 · exact num_ch h hg
theorem emp_yes {a : List UInt8} (h : a = []) : (sB a).toList.isEmpty = true := by
 rw [list_data, bl_list, h]
 rfl
theorem emp_no {a : List UInt8} (h : a ≠ []) : (sB a).toList.isEmpty = false := by
 rw [list_data, bl_list]
 cases a with
 | nil => exact absurd rfl h
 | cons c r => rfl
theorem phex_walk {m : Nat} (hm : m < 18446744073709551616) {E : Int} (h0 : -5000 ≤ E) (h1 : E ≤ 5000) {z : Int} {X : Nat} {k : Int} {w : World} (hT : Tab w) (hg : ErrT w)
 (SZ : ∀ W, Calls Tryz.prog 4 #[.int .i64 z] W fun o w' => o = .returned (.bool true) ∧ w' = W)
 (P : ∀ W, Tab W → Calls Tryz.prog 6 #[.string (sB (48 :: 120 :: (fl 16 m ++ 112 :: ((if decide (E < 0) then [45] else []) ++ fl 10 E.natAbs)))), .int .i64 z, .pointer none] W fun o w' => ∃ v, o = .returned (.tuple #[.int .u64 (X : Int), v]) ∧ ErV w' k cPrs (sB (48 :: 120 :: (fl 16 m ++ 112 :: ((if decide (E < 0) then [45] else []) ++ fl 10 E.natAbs)))) v ∧ Below W.heap.size W w')
 (R : ∀ W, Calls Tryz.prog 7 #[.int .i64 z, .bool false, .int .u64 (m : Int), .int .i64 E, .bool false] W fun o w' => o = .returned (.tuple #[.int .u64 (X : Int), .int .i64 k]) ∧ Below W.heap.size W w') :
 Calls Tryz.prog 3 #[.int .u64 (m : Int), .int .i64 E, .int .i64 z] w fun o w' => o = .returned (.bool true) ∧ Below w.heap.size w w' := by
 have HT : Hid (Tab w ∧ ErrT w) := ⟨hT, hg⟩
 have HH : Hid (m < 18446744073709551616 ∧ -5000 ≤ E ∧ E ≤ 5000) := ⟨hm, h0, h1⟩
 have i0 : ¬ (5000 : Int) < E := by omega
 have i1 : ¬ E < -5000 := by omega
 have WK := fun W (h : Tab W) (h' : ErrT W) => works18 W h h'
 clear hT hg hm h0 h1
 go_enter Tryz.func3, Tryz.ntmps3
 go_wp2_with fail
 refine (SZ _).mono ?_
 rintro o w1 ⟨rfl, e1⟩
 subst e1
 go_wp2
 go_loop [7, 8] (fun sv nv => ∃ (a : List UInt8) (n : Nat), sv = .string (sB a) ∧ nv = .int .u64 (n : Int) ∧ n < 18446744073709551616 ∧ Hid (Dgs 16 m a n)) (fun sv nv => (intOf nv).toNat + emp sv)
 case atStart => exact ⟨[], m, rfl, rfl, HH.out.1, .inl ⟨rfl, rfl⟩⟩
 case round =>
  obtain ⟨a, n, rfl, rfl, hn, HI⟩ := hrel
  have al : (sB a).size ≤ 64 := by
   rw [bl_size]
   exact Nat.le_trans HI.out.len (Nat.le_trans (fl16_le HH.out.1) (by decide))
  have r16 : n % 16 < 16 := Nat.mod_lt _ (by decide)
  have nn : ((n : Int) % 16) = ((n % 16 : Nat) : Int) := by omega
  have nd : ((n : Int) / 16) = ((n / 16 : Nat) : Int) := by omega
  have c16e := at16 r16
  unfold c16 at c16e
  have k0 : (0 : Int) ≤ ((n % 16 : Nat) : Int) := by omega
  have k1 : ((n % 16 : Nat) : Int) < 16 := by omega
  by_cases c : a = [] ∨ 0 < n
  · have HS : Hid (Dgs 16 m (dg8 (n % 16) :: a) (n / 16)) := HI.out.step (by decide) c
    have lt : n / 16 + emp (.string (sB (dg8 (n % 16) :: a))) < n + emp (.string (sB a)) := by
     have e1 : emp (.string (sB (dg8 (n % 16) :: a))) = 0 := rfl
     rw [e1]
     rcases c with rfl | c
     · show n / 16 + 0 < n + 1
       omega
     · omega
    have ap := bl_append [dg8 (n % 16)] a
    have x3 : (n : Int).tmod 16 = ((n % 16 : Nat) : Int) := by rw [Int.tmod_eq_emod_of_nonneg (by omega)]; exact nn
    have q3 : (n : Int).tdiv 16 = ((n / 16 : Nat) : Int) := by rw [Int.tdiv_eq_ediv_of_nonneg (by omega)]; exact nd
    have hq18 : n / 16 < 18446744073709551616 := by omega
    generalize hq : n / 16 = q at *
    generalize hx : n % 16 = x at *
    have hx16 : x < 16 := by omega
    have kx : ((x : Int) + 1) ≤ 16 := by omega
    have hsum : ¬ 9223372036854775807 < (sB [dg8 x]).size + (sB a).size := by
     have : (sB [dg8 x]).size = 1 := rfl
     omega
    clear hx hq r16
    by_cases ca : a = []
    · have es := emp_yes ca
      clear ca c
      go_wp2
      go_round
      case rel => exact ⟨dg8 x :: a, q, rfl, by go_num, hq18, HS⟩
      case measure => simp only [intOf]; simp; exact lt
    · have es := emp_no ca
      have n0 : (0 : Int) < (n : Int) := by
       rcases c with c | c
       · exact absurd c ca
       · omega
      clear ca c
      go_wp2
      go_round
      case rel => exact ⟨dg8 x :: a, q, rfl, by go_num, hq18, HS⟩
      case measure => simp only [intOf]; simp; exact lt
  · have ca : a ≠ [] := fun y => c (.inl y)
    obtain rfl : n = 0 := by
     apply Classical.byContradiction
     intro y
     exact c (.inr (by omega))
    have es := emp_no ca
    have ea := HI.out.done ca
    subst ea
    clear ca c r16 nn nd c16e k0 k1 hn
    have HA : Hid ((fl 16 m).length ≤ 64) := Nat.le_trans (fl16_le HH.out.1) (by decide)
    have HD : Hid ((fl 10 E.natAbs).length ≤ 64) := fl10_le (by have := HH.out.2; omega)
    have HE : Hid (E.natAbs ≤ 5000) := by have := HH.out.2; show _ ≤ _; omega
    by_cases en : E < 0
    · have wn : wrap64 (-E) = -E := by have := HH.out.2; unfold wrap64; omega
      have hs : (if decide (E < 0) then [45] else ([] : List UInt8)) = [45] := by rw [show decide (E < 0) = true from decide_eq_true en]; rfl
      rw [hs] at P
      go_wp2
      go_loop [11, 10] (fun sv nv => ∃ (b : List UInt8) (n : Nat), sv = .string (sB b) ∧ nv = .int .i64 (n : Int) ∧ n ≤ 5000 ∧ Hid (Dgs 10 E.natAbs b n)) (fun sv nv => (intOf nv).toNat + emp sv)
      case atStart => exact ⟨[], E.natAbs, rfl, by rw [show (E.natAbs : Int) = -E from by omega], HE.out, .inl ⟨rfl, rfl⟩⟩
      case round =>
       obtain ⟨b, n, rfl, rfl, hn, HI⟩ := hrel
       have bl : (sB b).size ≤ 64 := by
        rw [bl_size]
        exact Nat.le_trans HI.out.len HD.out
       have r10 : n % 10 < 10 := Nat.mod_lt _ (by decide)
       have nn : ((n : Int) % 10) = ((n % 10 : Nat) : Int) := by omega
       have nd : ((n : Int) / 10) = ((n / 10 : Nat) : Int) := by omega
       have c10e := at10 r10
       unfold c10 at c10e
       by_cases c : b = [] ∨ 0 < n
       · have HS : Hid (Dgs 10 E.natAbs (dg8 (n % 10) :: b) (n / 10)) := HI.out.step (by decide) c
         have lt : n / 10 + emp (.string (sB (dg8 (n % 10) :: b))) < n + emp (.string (sB b)) := by
          have e1 : emp (.string (sB (dg8 (n % 10) :: b))) = 0 := rfl
          rw [e1]
          rcases c with rfl | c
          · show n / 10 + 0 < n + 1
            omega
          · omega
         have ap := bl_append [dg8 (n % 10)] b
         have x3 : (n : Int).tmod 10 = ((n % 10 : Nat) : Int) := by rw [Int.tmod_eq_emod_of_nonneg (by omega)]; exact nn
         have q3 : (n : Int).tdiv 10 = ((n / 10 : Nat) : Int) := by rw [Int.tdiv_eq_ediv_of_nonneg (by omega)]; exact nd
         have hq5 : n / 10 ≤ 5000 := by omega
         generalize hq : n / 10 = q at *
         generalize hx : n % 10 = x at *
         have hx10 : x < 10 := by omega
         have kx : ((x : Int) + 1) ≤ 10 := by omega
         have hsum : ¬ 9223372036854775807 < (sB [dg8 x]).size + (sB b).size := by
          have : (sB [dg8 x]).size = 1 := rfl
          omega
         clear hx hq r10
         by_cases cb : b = []
         · have es := emp_yes cb
           clear cb c
           go_wp2
           go_round
           case rel => exact ⟨dg8 x :: b, q, rfl, by go_num, hq5, HS⟩
           case measure => simp only [intOf]; simp; exact lt
         · have es := emp_no cb
           have n0 : (0 : Int) < (n : Int) := by
            rcases c with c | c
            · exact absurd c cb
            · omega
           clear cb c
           go_wp2
           go_round
           case rel => exact ⟨dg8 x :: b, q, rfl, by go_num, hq5, HS⟩
           case measure => simp only [intOf]; simp; exact lt
       · have cb : b ≠ [] := fun y => c (.inl y)
         obtain rfl : n = 0 := by
          apply Classical.byContradiction
          intro y
          exact c (.inr (by omega))
         have es := emp_no cb
         have eb := HI.out.done cb
         subst eb
         clear cb c r10 nn nd c10e hn
         have z1 : (⟨#[48, 120]⟩ : ByteArray) ++ sB (fl 16 m) = sB ([48, 120] ++ fl 16 m) := bl_append [48, 120] (fl 16 m)
         have z2 : sB ([48, 120] ++ fl 16 m) ++ (⟨#[112]⟩ : ByteArray) = sB ([48, 120] ++ fl 16 m ++ [112]) := bl_append ([48, 120] ++ fl 16 m) [112]
         have z3 : sB ([48, 120] ++ fl 16 m ++ [112]) ++ (⟨#[45]⟩ : ByteArray) = sB ([48, 120] ++ fl 16 m ++ [112] ++ [45]) := bl_append ([48, 120] ++ fl 16 m ++ [112]) [45]
         have z4 := bl_append ([48, 120] ++ fl 16 m ++ [112] ++ [45]) (fl 10 E.natAbs)
         have z5 : [48, 120] ++ fl 16 m ++ [112] ++ [45] ++ fl 10 E.natAbs = 48 :: 120 :: (fl 16 m ++ 112 :: ([45] ++ fl 10 E.natAbs)) := by simp
         have l1 : (sB (fl 16 m)).size ≤ 64 := by rw [bl_size]; exact HA.out
         have l2 : (sB ([48, 120] ++ fl 16 m)).size ≤ 66 := by rw [bl_size, List.length_append]; have := HA.out; simp; omega
         have l3 : (sB ([48, 120] ++ fl 16 m ++ [112])).size ≤ 67 := by rw [bl_size, List.length_append, List.length_append]; have := HA.out; simp; omega
         have l4 : (sB ([48, 120] ++ fl 16 m ++ [112] ++ [45])).size ≤ 68 := by rw [bl_size, List.length_append, List.length_append, List.length_append]; have := HA.out; simp; omega
         have l5 : (sB (fl 10 E.natAbs)).size ≤ 64 := by rw [bl_size]; exact HD.out
         have w1s : (⟨#[48, 120]⟩ : ByteArray).size = 2 := rfl
         have w2s : (⟨#[112]⟩ : ByteArray).size = 1 := rfl
         have w3s : (⟨#[45]⟩ : ByteArray).size ≤ 1 := by decide
         have h1 : ¬ 9223372036854775807 < (⟨#[48, 120]⟩ : ByteArray).size + (sB (fl 16 m)).size := by omega
         have h2 : ¬ 9223372036854775807 < (sB ([48, 120] ++ fl 16 m)).size + (⟨#[112]⟩ : ByteArray).size := by omega
         have h3 : ¬ 9223372036854775807 < (sB ([48, 120] ++ fl 16 m ++ [112])).size + (⟨#[45]⟩ : ByteArray).size := by omega
         have h4 : ¬ 9223372036854775807 < (sB ([48, 120] ++ fl 16 m ++ [112] ++ [45])).size + (sB (fl 10 E.natAbs)).size := by omega
         rw [z5] at z4
         clear z5
         generalize sB (48 :: 120 :: (fl 16 m ++ 112 :: ([45] ++ fl 10 E.natAbs))) = t4 at *
         generalize sB ([48, 120] ++ fl 16 m ++ [112] ++ [45]) = t3 at *
         generalize sB ([48, 120] ++ fl 16 m ++ [112]) = t2 at *
         generalize sB ([48, 120] ++ fl 16 m) = t1 at *
         go_wp2_with fail
         refine (P _ HT.out.1).mono ?_
         rintro o w2 ⟨v, rfl, e2, b2⟩
         have B2 : Hid (Below w1.heap.size w1 w2) := b2
         have E2 : Hid (ErV w2 k cPrs _ v) := e2
         clear b2 e2 P
         go_wp2_with fail
         refine (R _).mono ?_
         rintro o w3 ⟨rfl, b3⟩
         have B3 : Hid (Below w1.heap.size w1 w3) := B2.out.trans (b3.mono B2.out.size)
         have NM := num_erv (E2.out.below b3 (Nat.le_refl _)) (HT.out.2.below B3.out HT.out.2.pos)
         have qX : ((X : Int) == (X : Int)) = true := beq_self_eq_true _
         have qk : (k == k) = true := beq_self_eq_true _
         clear b3 E2 R
         go_wp2_with fail
         refine NM.mono ?_
         rintro o w4 ⟨rfl, b4⟩
         have B4 : Hid (Below w1.heap.size w1 w4) := B3.out.trans (b4.mono B3.out.size)
         clear b4 NM
         go_wp2_with fail
         refine (WK _ (HT.out.1.next B4.out) (HT.out.2.below B4.out HT.out.2.pos)).mono ?_
         rintro o w5 ⟨rfl, b5⟩
         have B5 : Hid (Below w1.heap.size w1 w5) := B4.out.trans (b5.mono B4.out.size)
         clear b5
         go_wp2
         go_ret
         exact ⟨rfl, B5.out⟩
    · have hs : (if decide (E < 0) then [45] else ([] : List UInt8)) = ([] : List UInt8) := by rw [show decide (E < 0) = false from decide_eq_false en]; rfl
      rw [hs] at P
      go_wp2
      go_loop [11, 10] (fun sv nv => ∃ (b : List UInt8) (n : Nat), sv = .string (sB b) ∧ nv = .int .i64 (n : Int) ∧ n ≤ 5000 ∧ Hid (Dgs 10 E.natAbs b n)) (fun sv nv => (intOf nv).toNat + emp sv)
      case atStart => exact ⟨[], E.natAbs, rfl, by rw [show (E.natAbs : Int) = E from by omega], HE.out, .inl ⟨rfl, rfl⟩⟩
      case round =>
       obtain ⟨b, n, rfl, rfl, hn, HI⟩ := hrel
       have bl : (sB b).size ≤ 64 := by
        rw [bl_size]
        exact Nat.le_trans HI.out.len HD.out
       have r10 : n % 10 < 10 := Nat.mod_lt _ (by decide)
       have nn : ((n : Int) % 10) = ((n % 10 : Nat) : Int) := by omega
       have nd : ((n : Int) / 10) = ((n / 10 : Nat) : Int) := by omega
       have c10e := at10 r10
       unfold c10 at c10e
       by_cases c : b = [] ∨ 0 < n
       · have HS : Hid (Dgs 10 E.natAbs (dg8 (n % 10) :: b) (n / 10)) := HI.out.step (by decide) c
         have lt : n / 10 + emp (.string (sB (dg8 (n % 10) :: b))) < n + emp (.string (sB b)) := by
          have e1 : emp (.string (sB (dg8 (n % 10) :: b))) = 0 := rfl
          rw [e1]
          rcases c with rfl | c
          · show n / 10 + 0 < n + 1
            omega
          · omega
         have ap := bl_append [dg8 (n % 10)] b
         have x3 : (n : Int).tmod 10 = ((n % 10 : Nat) : Int) := by rw [Int.tmod_eq_emod_of_nonneg (by omega)]; exact nn
         have q3 : (n : Int).tdiv 10 = ((n / 10 : Nat) : Int) := by rw [Int.tdiv_eq_ediv_of_nonneg (by omega)]; exact nd
         have hq5 : n / 10 ≤ 5000 := by omega
         generalize hq : n / 10 = q at *
         generalize hx : n % 10 = x at *
         have hx10 : x < 10 := by omega
         have kx : ((x : Int) + 1) ≤ 10 := by omega
         have hsum : ¬ 9223372036854775807 < (sB [dg8 x]).size + (sB b).size := by
          have : (sB [dg8 x]).size = 1 := rfl
          omega
         clear hx hq r10
         by_cases cb : b = []
         · have es := emp_yes cb
           clear cb c
           go_wp2
           go_round
           case rel => exact ⟨dg8 x :: b, q, rfl, by go_num, hq5, HS⟩
           case measure => simp only [intOf]; simp; exact lt
         · have es := emp_no cb
           have n0 : (0 : Int) < (n : Int) := by
            rcases c with c | c
            · exact absurd c cb
            · omega
           clear cb c
           go_wp2
           go_round
           case rel => exact ⟨dg8 x :: b, q, rfl, by go_num, hq5, HS⟩
           case measure => simp only [intOf]; simp; exact lt
       · have cb : b ≠ [] := fun y => c (.inl y)
         obtain rfl : n = 0 := by
          apply Classical.byContradiction
          intro y
          exact c (.inr (by omega))
         have es := emp_no cb
         have eb := HI.out.done cb
         subst eb
         clear cb c r10 nn nd c10e hn
         have z1 : (⟨#[48, 120]⟩ : ByteArray) ++ sB (fl 16 m) = sB ([48, 120] ++ fl 16 m) := bl_append [48, 120] (fl 16 m)
         have z2 : sB ([48, 120] ++ fl 16 m) ++ (⟨#[112]⟩ : ByteArray) = sB ([48, 120] ++ fl 16 m ++ [112]) := bl_append ([48, 120] ++ fl 16 m) [112]
         have z3 : sB ([48, 120] ++ fl 16 m ++ [112]) ++ (⟨#[]⟩ : ByteArray) = sB ([48, 120] ++ fl 16 m ++ [112] ++ ([] : List UInt8)) := bl_append ([48, 120] ++ fl 16 m ++ [112]) ([] : List UInt8)
         have z4 := bl_append ([48, 120] ++ fl 16 m ++ [112] ++ ([] : List UInt8)) (fl 10 E.natAbs)
         have z5 : [48, 120] ++ fl 16 m ++ [112] ++ ([] : List UInt8) ++ fl 10 E.natAbs = 48 :: 120 :: (fl 16 m ++ 112 :: (([] : List UInt8) ++ fl 10 E.natAbs)) := by simp
         have l1 : (sB (fl 16 m)).size ≤ 64 := by rw [bl_size]; exact HA.out
         have l2 : (sB ([48, 120] ++ fl 16 m)).size ≤ 66 := by rw [bl_size, List.length_append]; have := HA.out; simp; omega
         have l3 : (sB ([48, 120] ++ fl 16 m ++ [112])).size ≤ 67 := by rw [bl_size, List.length_append, List.length_append]; have := HA.out; simp; omega
         have l4 : (sB ([48, 120] ++ fl 16 m ++ [112] ++ ([] : List UInt8))).size ≤ 68 := by rw [bl_size, List.length_append, List.length_append, List.length_append]; have := HA.out; simp; omega
         have l5 : (sB (fl 10 E.natAbs)).size ≤ 64 := by rw [bl_size]; exact HD.out
         have w1s : (⟨#[48, 120]⟩ : ByteArray).size = 2 := rfl
         have w2s : (⟨#[112]⟩ : ByteArray).size = 1 := rfl
         have w3s : (⟨#[]⟩ : ByteArray).size ≤ 1 := by decide
         have h1 : ¬ 9223372036854775807 < (⟨#[48, 120]⟩ : ByteArray).size + (sB (fl 16 m)).size := by omega
         have h2 : ¬ 9223372036854775807 < (sB ([48, 120] ++ fl 16 m)).size + (⟨#[112]⟩ : ByteArray).size := by omega
         have h3 : ¬ 9223372036854775807 < (sB ([48, 120] ++ fl 16 m ++ [112])).size + (⟨#[]⟩ : ByteArray).size := by omega
         have h4 : ¬ 9223372036854775807 < (sB ([48, 120] ++ fl 16 m ++ [112] ++ ([] : List UInt8))).size + (sB (fl 10 E.natAbs)).size := by omega
         rw [z5] at z4
         clear z5
         generalize sB (48 :: 120 :: (fl 16 m ++ 112 :: (([] : List UInt8) ++ fl 10 E.natAbs))) = t4 at *
         generalize sB ([48, 120] ++ fl 16 m ++ [112] ++ ([] : List UInt8)) = t3 at *
         generalize sB ([48, 120] ++ fl 16 m ++ [112]) = t2 at *
         generalize sB ([48, 120] ++ fl 16 m) = t1 at *
         go_wp2_with fail
         refine (P _ HT.out.1).mono ?_
         rintro o w2 ⟨v, rfl, e2, b2⟩
         have B2 : Hid (Below w1.heap.size w1 w2) := b2
         have E2 : Hid (ErV w2 k cPrs _ v) := e2
         clear b2 e2 P
         go_wp2_with fail
         refine (R _).mono ?_
         rintro o w3 ⟨rfl, b3⟩
         have B3 : Hid (Below w1.heap.size w1 w3) := B2.out.trans (b3.mono B2.out.size)
         have NM := num_erv (E2.out.below b3 (Nat.le_refl _)) (HT.out.2.below B3.out HT.out.2.pos)
         have qX : ((X : Int) == (X : Int)) = true := beq_self_eq_true _
         have qk : (k == k) = true := beq_self_eq_true _
         clear b3 E2 R
         go_wp2_with fail
         refine NM.mono ?_
         rintro o w4 ⟨rfl, b4⟩
         have B4 : Hid (Below w1.heap.size w1 w4) := B3.out.trans (b4.mono B3.out.size)
         clear b4 NM
         go_wp2_with fail
         refine (WK _ (HT.out.1.next B4.out) (HT.out.2.below B4.out HT.out.2.pos)).mono ?_
         rintro o w5 ⟨rfl, b5⟩
         have B5 : Hid (Below w1.heap.size w1 w5) := B4.out.trans (b5.mono B4.out.size)
         clear b5
         go_wp2
         go_ret
         exact ⟨rfl, B5.out⟩
theorem phex_far {m : Int} {E z : Int} {w : World} (hT : Tab w) (hg : ErrT w) (h : 5000 < E ∨ E < -5000) :
 Calls Tryz.prog 3 #[.int .u64 m, .int .i64 E, .int .i64 z] w fun o w' => o = .returned (.bool true) ∧ Below w.heap.size w w' := by
 have WK := works18 w hT hg
 clear hT hg
 by_cases c : 5000 < E
 · clear h
   go_enter Tryz.func3, Tryz.ntmps3
   go_wp2_with fail
   refine WK.mono ?_
   rintro o w1 ⟨rfl, b1⟩
   have B1 : Hid (Below w.heap.size w w1) := b1
   clear b1
   go_wp2
   go_ret
   exact ⟨rfl, B1.out⟩
 · have c2 : E < -5000 := by omega
   clear h
   go_enter Tryz.func3, Tryz.ntmps3
   go_wp2_with fail
   refine WK.mono ?_
   rintro o w1 ⟨rfl, b1⟩
   have B1 : Hid (Below w.heap.size w w1) := b1
   clear b1
   go_wp2
   go_ret
   exact ⟨rfl, B1.out⟩
theorem phex_none {m : Int} {E z : Int} {w : World} (hT : Tab w) (hg : ErrT w) (h0 : -5000 ≤ E) (h1 : E ≤ 5000)
 (SZ : ∀ W, Calls Tryz.prog 4 #[.int .i64 z] W fun o w' => o = .returned (.bool false) ∧ w' = W) :
 Calls Tryz.prog 3 #[.int .u64 m, .int .i64 E, .int .i64 z] w fun o w' => o = .returned (.bool true) ∧ Below w.heap.size w w' := by
 have WK := works18 w hT hg
 have i0 : ¬ (5000 : Int) < E := by omega
 have i1 : ¬ E < -5000 := by omega
 clear hT hg h0 h1
 go_enter Tryz.func3, Tryz.ntmps3
 go_wp2_with fail
 refine (SZ _).mono ?_
 rintro o w' ⟨rfl, e1⟩
 subst e1
 go_wp2_with fail
 refine WK.mono ?_
 rintro o w1 ⟨rfl, b1⟩
 have B1 : Hid (Below w'.heap.size w' w1) := b1
 clear b1
 go_wp2
 go_ret
 exact ⟨rfl, B1.out⟩
theorem fz_ofH (z : Int) : Sn z ∨ ∃ g n f T L, Fz z g n f T L := by
 by_cases h : z = 32
 · exact .inr ⟨_, _, _, _, _, .inl ⟨h, rfl, rfl, rfl, rfl, rfl⟩⟩
 · by_cases h' : z = 64
   · exact .inr ⟨_, _, _, _, _, .inr ⟨h', rfl, rfl, rfl, rfl, rfl⟩⟩
   · exact .inl ⟨h, h'⟩
theorem phex_law {m : Nat} (hm : m < 18446744073709551616) (E z : Int) (w : World) (hT : Tab w) (hg : ErrT w) :
 Calls Tryz.prog 3 #[.int .u64 (m : Int), .int .i64 E, .int .i64 z] w fun o w' => o = .returned (.bool true) ∧ Below w.heap.size w w' := by
 by_cases h : 5000 < E ∨ E < -5000
 · exact phex_far hT hg h
 · rcases fz_ofH z with hz | ⟨g, n, f, T, L, hz⟩
   · exact phex_none hT hg (by omega) (by omega) fun W => rsize_no hz W
   · have he : E.natAbs ≤ 5000 := by omega
     obtain ⟨x, hs, hx⟩ := hex_scn hm (decide (E < 0)) he
     have e0 : (if decide (E < 0) then -(E.natAbs : Int) else (E.natAbs : Int)) = E := by
      by_cases en : E < 0
      · rw [decide_eq_true en, if_pos rfl]
        omega
      · rw [decide_eq_false en, if_neg (by decide)]
        omega
     rw [e0] at hx
     have rd : rdA f T L m 1 x false = rdA f T L m 1 E false := by
      rcases hx with rfl | rfl
      · rw [rdA_nought, rdA_nought]
      · rfl
     have ln : (48 :: 120 :: (fl 16 m ++ 112 :: ((if decide (E < 0) then [45] else []) ++ fl 10 E.natAbs))).length ≤ 1048576 := by
      have a := fl16_le hm
      have b := fl10_le he
      simp only [List.length_cons, List.length_append]
      have c : (if decide (E < 0) = true then [45] else ([] : List UInt8)).length ≤ 1 := by split <;> decide
      omega
     have P := fun W (t : Tab W) => parse_nil hz t ln
     unfold prA at P
     rw [hs] at P
     have o1 : ofP g f T L { kind := 2, mant := m, exp := x } = (sgd g false (rdA f T L m 1 E false).1, (rdA f T L m 1 E false).2) := by
      rw [← rd]
      rfl
     dsimp only at P
     rw [o1] at P
     exact phex_walk hm (by omega) (by omega) hT hg (fun W => rsize_z hz W) P (fun W => rwhole_ok hz false false hm (by omega) (by omega) W)
end Go.Proofs.YtiminkommimgdabGreatDoor
