/-
  Holds: QkF QkZ QkR QkDb LawQk LawQkA.
-/
import Derived.Test.YtbpfhnndlknloaaGreatDoorRows
import Derived.Laws.Externs
import Derived.WalkKit
import Derived.WalkSpells
import Derived.WalkLawsBesides
import Derived.Lib.Mul64
import Derived.Stop.Asserts
import Derived.RowKitTokens
import Derived.Lib.Strings
import Derived.Lib.BufferWrite
import Derived.Deep.OwnRows
import Derived.Deep.RegionHeld3
import Derived.BigQuiet
import Derived.Lib.ConvBytes
import Derived.Laws.CopyOwn
import Derived.Lib.TrailingZeros
import Derived.Lib.ItoaNum
import Derived.Deep.LoopGhost
import Derived.Deep.AppendLies
import Derived.Deep.DeepCutAuto
import Derived.Test.YtbpfhnndlknloaaGreatDoorShelf
import Derived.Test.YtbpfhnndlknloaaGreatDoorKh28
import Derived.Test.YtbpfhnndlknloaaGreatDoorKh29
import Derived.Test.YtbpfhnndlknloaaGreatDoorKh30
set_option maxRecDepth 100000
set_option maxHeartbeats 4000000
namespace Go.Proofs.YtbpfhnndlknloaaGreatDoor
open Go.Shelf Go.RowKit Go.Sort Go.Lib
theorem ufmt_in (u : Nat) (h0 : 1 ≤ u) (h64 : u < 18446744073709551616) (w : World) (hp : Pow w) :
 Calls Tryz.prog 77 #[.int .u64 u, .int .i64 10] w fun e w' => e = .returned (.string (tenT u)) ∧ ∃ k os, w' = grow (w.drewN k) os := by
 unfold tenT
 by_cases hs : u < 100
 · have SM := fun W => small_call u hs W
   go_enter Tryz.func77, Tryz.ntmps77
   go_wp2_with fail
   refine (SM _).mono ?_
   rintro e w' ⟨rfl, rfl⟩
   go_wp2
   go_ret
   exact ⟨rfl, 0, #[], by simp [World.drewN_zero]⟩
 · have hnd20 : Lib.nDigits u ≤ 20 := by have := Lib.numDigits_eq u h0 h64; split at this <;> omega
   have hb3 : Lib.nDigits u ≤ 24 := by omega
   have hal : Tryz.prog.arrayLen 191 = 24 := by simp [Program.arrayLen, Tryz.underlying191]
   have hsl : ∀ W, (Instr.sliceAt 191 (.pointer (some ⟨w.heap.size, 0, none⟩)) none (some (.int .i64 (Lib.nDigits u : Int))) none).run Tryz.prog W = .ok (.slice (some ⟨w.heap.size, 0, none⟩) (Lib.nDigits u) 24) W := fun W => by
    rw [run_sliceAt_array_h W 191 ⟨w.heap.size, 0, none⟩ (by simp [Program.arrayLen, Program.elem, Tryz.underlying191]) .i64 (Lib.nDigits u : Int) (by omega) (by rw [hal]; omega)]
    go_simp
   have hH0 : Holds (fun (b : UInt8) => Value.int .u8 (b.toNat : Int)) (w.alloc (.cells Lib.zeros24 191)) w.heap.size 0 (Array.replicate (Lib.nDigits u) (0 : UInt8)) := fun j hj => by
    have hj' : j < Lib.nDigits u := by simpa using hj
    refine ⟨?_, World.frozen?_alloc_new _ _ _ _⟩
    rw [World.cell?_alloc_new, Lib.zeros24_at _ (by omega), getElem!_pos _ j hj]
    simp
   have hfmt := base10_call w.heap.size 0 24 u (Array.replicate (Lib.nDigits u) 0) (w.alloc (.cells Lib.zeros24 191)) hH0 (by rw [Array.size_replicate]; exact Lib.lt_pow_nDigits u) h64 (by rw [Array.size_replicate]; omega)
   rw [Array.size_replicate] at hfmt
   have hnd := numDigits_call u h0 h64 _ (Lib.tabIs_alloc hp (.cells Lib.zeros24 191))
   have HH0 := Lib.hid hH0
   clear hH0 hal
   go_enter Tryz.func77, Tryz.ntmps77
   go_wp2_with fail
   refine hnd.mono ?_
   rintro e w' ⟨rfl, rfl⟩
   go_wp2_with fail
   refine hfmt.mono ?_
   rintro e w' ⟨rfl, k, v', dk, rfl, hF⟩
   have hcv : (convert 172 9 (.slice (some ⟨w.heap.size, 0, none⟩) (Lib.nDigits u) 24)).run Tryz.prog ((putRow (fun (b : UInt8) => Value.int .u8 (b.toNat : Int)) (w.alloc (.cells Lib.zeros24 191)) w.heap.size 0 dk).drewN k) = .ok (.string ⟨(Lib.decDigits u).toArray⟩) ((putRow (fun (b : UInt8) => Value.int .u8 (b.toNat : Int)) (w.alloc (.cells Lib.zeros24 191)) w.heap.size 0 dk).drewN k) := by
    have h := run_convert_bytes_back (P := Tryz.prog) ((putRow (fun (b : UInt8) => Value.int .u8 (b.toNat : Int)) (w.alloc (.cells Lib.zeros24 191)) w.heap.size 0 dk).drewN k) 172 9 5 ⟨w.heap.size, 0, none⟩ 24 (Lib.decDigits u) Tryz.underlying172 Tryz.underlying5 Tryz.underlying9 (fun j hj => by
     rw [Lib.row_is_numeral hF j hj, Lib.add_plain, World.cell?_drewN]
     exact cell?_putRow (fun (b : UInt8) => Value.int .u8 (b.toNat : Int)) _ w.heap.size 0 _ dk HH0.out (by rw [hF.size, Array.size_replicate]) j (by rw [hF.size]; rw [Lib.decDigits_length] at hj; exact hj))
    rw [Lib.decDigits_length] at h
    exact h
   go_wp2
   go_ret
   refine ⟨rfl, k, ?_⟩
   rw [alloc_eq_grow]
   obtain ⟨os', _, e⟩ := putRow_grow_new (fun (b : UInt8) => Value.int .u8 (b.toNat : Int)) w #[.cells Lib.zeros24 191] w.heap.size 0 dk (Nat.le_refl _)
   exact ⟨os', by rw [e]; rfl⟩
theorem ufmt_call (u : Nat) (h0 : 1 ≤ u) (h64 : u < 18446744073709551616) (w : World) (hp : Pow w) :
 Calls Tryz.prog 36 #[.int .u64 u, .int .i64 10] w fun e w' => e = .returned (.string (tenT u)) ∧ ∃ k os, w' = grow (w.drewN k) os := by
 have F := ufmt_in u h0 h64 w hp
 go_enter Tryz.func36, Tryz.ntmps36
 go_wp2_with fail
 refine F.mono ?_
 rintro e w' ⟨rfl, k, os, rfl⟩
 go_wp2
 go_ret
 exact ⟨rfl, k, os, rfl⟩
end Go.Proofs.YtbpfhnndlknloaaGreatDoor
namespace Go.Proofs.YtbpfhnndlknloaaGreatDoor
open Go.RowKit
theorem near_is {a m v s : Nat} {e : Bool} (s0 : 0 < s) (s1 : s < 9223372036854775808) (hv : v < 9223372036854775808) (W : World) :
    Calls Tryz.prog 37 #[.agg #[.int .u64 (a : Int), .int .u64 (m : Int), .int .u64 (v : Int), .bool e], .int .u64 (s : Int)] W fun x w' => x = .returned (.int .u64 ((nrQ v e a s : Nat) : Int)) ∧ Below W.heap.size W w' := by
  have dm := Nat.div_add_mod v s
  have ml := Nat.mod_lt v s0
  have tl := Nat.div_le_self v s
  have q1 : IntKind.u64.wrap ((v : Int) / (s : Int)) = ((v / s : Nat) : Int) := by
    rw [IntKind.wrap_u64, ← Int.natCast_ediv]
    generalize v / s = t at *
    omega
  rw [Nat.mul_comm] at dm
  have q2 : IntKind.u64.wrap (((v / s : Nat) : Int) * (s : Int)) = ((v / s * s : Nat) : Int) := by
    rw [IntKind.wrap_u64, ← Int.natCast_mul]
    generalize v / s * s = t at *
    omega
  have q3 : IntKind.u64.wrap ((v : Int) - ((v / s * s : Nat) : Int)) = ((v % s : Nat) : Int) := by
    rw [IntKind.wrap_u64]
    generalize v / s * s = t at *
    generalize v % s = r at *
    omega
  have q4 : IntKind.u64.wrap ((s : Int) / 2) = ((s / 2 : Nat) : Int) := by rw [IntKind.wrap_u64]; omega
  have q5 : IntKind.u64.wrap (((v / s : Nat) : Int) + 1) = ((v / s + 1 : Nat) : Int) := by
    rw [IntKind.wrap_u64]
    generalize v / s = t at *
    omega
  have q6 : IntKind.u64.wrap (((v / s + 1 : Nat) : Int) * (s : Int)) = (((v / s + 1) * s : Nat) : Int) := by
    rw [IntKind.wrap_u64, ← Int.natCast_mul, Nat.add_mul, Nat.one_mul]
    generalize v / s * s = t at *
    omega
  have q7 : IntKind.u64.wrap (((v / s + 1 : Nat) : Int) + 1) = ((v / s + 1 + 1 : Nat) : Int) := by
    rw [IntKind.wrap_u64]
    generalize v / s = t at *
    omega
  unfold nrQ tmQ
  cases u : upQ v e s with
  | true =>
    refine nr_up s0 q1 q2 q3 q4 q5 q6 q7 ?_ W
    unfold upQ at u
    simp only [Bool.or_eq_true, Bool.and_eq_true, decide_eq_true_eq] at u
    show _ ∨ _
    rcases u with u | ⟨u1, u2⟩
    · exact Or.inl u
    · refine Or.inr ⟨by omega, u1, ?_⟩
      rcases u2 with u2 | u2
      · exact Or.inl u2
      · cases e
        · exact Or.inr ⟨rfl, u2⟩
        · exact Or.inl rfl
  | false =>
    refine nr_dn s0 q1 q2 q3 q4 q5 ?_ W
    unfold upQ at u
    simp only [Bool.or_eq_false_iff, Bool.and_eq_false_iff, decide_eq_false_iff_not] at u
    show _ ∨ _
    obtain ⟨u0, u1⟩ := u
    by_cases c : v % s = s / 2
    · rcases u1 with u1 | u1
      · exact absurd c u1
      · exact Or.inr ⟨u0, c, u1.1, u1.2⟩
    · exact Or.inl ⟨u0, c⟩
theorem step_ex {a m : Nat} (a0 : 0 < a) (hm : m < 9223372036854775808) : ∃ k, k ≤ 18 ∧ (∀ j, j < k → decide (a ≤ m / 10 ^ (j + 1) * 10 ^ (j + 1)) = true) ∧ decide (a ≤ m / 10 ^ (k + 1) * 10 ^ (k + 1)) = false := by
 rcases first_of (fun j => !decide (a ≤ m / 10 ^ (j + 1) * 10 ^ (j + 1))) 0 19 with ⟨n, _, h2, h3, h4⟩ | h
 · refine ⟨n, by omega, fun j hj => ?_, ?_⟩
   · have := h4 j (Nat.zero_le _) hj
     simpa using this
   · simpa using h3
 · exfalso
   have q := h 18 (by omega) (by omega)
   have z : m / 10 ^ (18 + 1) = 0 := Nat.div_eq_of_lt (by omega)
   simp only [z, Nat.zero_mul] at q
   simp at q
   omega
theorem pw_ex (x : Int) : ∃ M E, Pw x M E := by
 rcases Int.lt_or_le x 0 with c | c
 · obtain ⟨n, rfl⟩ : ∃ n : Nat, x = -(n : Int) := ⟨(-x).toNat, by omega⟩
   exact ⟨_, _, (fraction_pw (n := n) (by omega) rfl).2⟩
 · obtain ⟨n, rfl⟩ : ∃ n : Nat, x = (n : Int) := ⟨x.toNat, by omega⟩
   obtain ⟨_, _, _, _, h, _⟩ := whole_pw (n := n) rfl rfl rfl
   exact ⟨_, _, h⟩
theorem of_fix {x : Int} {M : Nat} {E : Int} (h : Pw x M E) (h1 : -400 ≤ x) (h2 : x ≤ 400) (W : World) (hT : Tab W) :
 Calls Tryz.prog 33 #[.int .i64 x] W fun e w' => e = .returned (.tuple #[.agg #[.int .u64 (hiW M), .int .u64 (loW M), .int .i64 E, .bool (decide (0 ≤ x ∧ x ≤ 55))], .nilIface]) ∧ Below W.heap.size W w' := by
 refine (of_yes x h1 h2 W hT).mono ?_
 rintro e w' ⟨M', E', rfl, pw, bb⟩
 obtain ⟨rfl, rfl⟩ := pw_uniq21 h pw
 exact ⟨rfl, bb⟩
def plQ (e : Int) : Int := e * 1292913986 / 4294967296 + 1 - 3
theorem digits_is {e : Int} (h1 : -1074 ≤ e) (h2 : e ≤ 971) (W : World) : Calls Tryz.prog 32 #[.int .i64 e] W fun x w' => x = .returned (.tuple #[.int .i64 (e * 1292913986 / 4294967296 + 1), .nilIface]) ∧ Below W.heap.size W w' := by
 refine (digits_call e W).mono ?_
 rintro x w' ⟨rfl, rfl⟩
 have c : ¬ (e < -1100 ∨ 1100 < e) := by omega
 refine ⟨?_, Below.refl _ _⟩
 unfold lgD lgE
 rw [if_neg c, if_neg c]
 rfl
def fthQ (e : Int) : Nat := 2 ^ (e - 2 + (R0 : Int)).toNat * 5 ^ R0
def unQ (e : Int) : Nat := 10 ^ (plQ e + (R0 : Int)).toNat
theorem scale_is {e : Int} (h1 : -1074 ≤ e) (h2 : e ≤ 971) : ∃ M X d, M < 2 ^ 128 ∧ Sc e (plQ e) M X (fthQ e) (unQ e) d ∧
 ∀ W, Tab W → Calls Tryz.prog 14 #[.int .i64 e] W fun x w' => x = .returned (scV M X (decide (0 ≤ -plQ e ∧ -plQ e ≤ 55)) (plQ e) (d : Int)) ∧ Below W.heap.size W w' := by
 have p1 : -400 ≤ plQ e ∧ plQ e ≤ 400 := by unfold plQ; omega
 obtain ⟨M, X, h⟩ := pw_ex (-plQ e)
 have t := td_log e (by omega) (by omega)
 have t' : Td e (plQ e + 3) := by
  have : plQ e + 3 = e * 1292913986 / 4294967296 + 1 := by unfold plQ; omega
  rw [this]; exact t
 have r0 : (R0 : Int) = 1100 := rfl
 obtain ⟨d, sc⟩ := sc_of (r := R0) h t' (by omega) (by omega)
 refine ⟨M, X, d, h.2.1, sc, fun W hT => ?_⟩
 have k1 := sc.dr
 have k2 := sc.d1
 have k3 := sc.d2
 have q := so_ok (w := W) (e0 := e) (l := e * 1292913986 / 4294967296 + 1) (X := X) hT (by omega) (by omega) (by omega) (by omega) (by omega) (by omega) (fun W => digits_is h1 h2 W) (fun W hT => of_fix h (by omega) (by omega) W hT)
 rw [← k1] at q
 exact q
def gpQ (f : Nat) (L : Int) (k : Nat) : Nat := if xp f L k < xp f L (k + 1) then 1 else 2
theorem gap_is {z : Int} {f T : Nat} {L : Int} {S I b : Nat} (h : Fn z f T L S I b) {k : Nat} (hk : mg S b = k + 1) (W : World) :
 Calls Tryz.prog 16 #[.int .u64 (b : Int), .int .i64 z, .int .i64 (xp f L (k + 1))] W fun x w' => x = .returned (.int .u64 ((gpQ f L k : Nat) : Int)) ∧ Below W.heap.size W w' := by
 obtain ⟨g, e⟩ := Fn.prev h (by omega)
 have ek : mg S (b - 1) = k := by omega
 have q := gb_ok (b := (b : Int)) (b1 := ((b - 1 : Nat) : Int)) (z := z) (e0 := xp f L (k + 1)) (fun W => prev_is h (by omega) W) (fun W => unp_any g.sf g.lt W) W
 rw [ek] at q
 have ee : (if uE I f L k < xp f L (k + 1) then (1 : Int) else 2) = ((gpQ f L k : Nat) : Int) := by
  have gf := g.fin
  rw [ek] at gf
  unfold gpQ uE
  rcases Nat.eq_zero_or_pos k with z | z
  · subst z
    obtain ⟨x1, x0, _⟩ := xp_one h.sf.fs.1.one L
    rw [cl_zero, if_neg (show ¬ (1 : Int) = 2 by decide), x1, x0]
    have : ¬ (0 : Int) < L := by rcases h.sf.fs.1 with ⟨_, _, rfl⟩ | ⟨_, _, rfl⟩ <;> omega
    rw [if_neg this, if_neg (by omega)]
    rfl
  · rw [cl_fine (by omega) gf, if_pos rfl]
    by_cases c : xp f L k < xp f L (k + 1)
    · rw [if_pos c, if_pos c]; rfl
    · rw [if_neg c, if_neg c]; rfl
 rw [ee] at q
 exact q
theorem fourths {f T : Nat} {L : Int} (fs : Fs f T L) {k : Nat} (hm : k + 1 < T * 2 ^ f) :
 vlF f L (k + 1) = 4 * mt f (k + 1) * fthQ (xp f L (k + 1)) ∧ hiF f L (k + 1) = (4 * mt f (k + 1) + 2) * fthQ (xp f L (k + 1)) ∧ loF f L (k + 1) = (4 * mt f (k + 1) - gpQ f L k) * fthQ (xp f L (k + 1)) := by
 have x := xp_in fs hm
 have xk := xp_in fs (show k < T * 2 ^ f by omega)
 have mp := mt_some (f := f) (m := k + 1) (by omega)
 have r0 : (R0 : Int) = 1100 := rfl
 have e1 : fv 1 (xp f L (k + 1) - 2) = fthQ (xp f L (k + 1)) := by unfold fv fthQ; rw [Nat.one_mul]
 have e2 : gF f L (k + 1) = 2 * fthQ (xp f L (k + 1)) := by
  unfold gF
  rw [fv_two (by omega), fv_mul, show xp f L (k + 1) - 1 - 1 = xp f L (k + 1) - 2 by omega, e1]
 have v := vl_g fs hm
 have hh := hi_g fs hm
 have ll := lo_g fs hm
 rw [e2] at v hh
 have v4 : vlF f L (k + 1) = 4 * mt f (k + 1) * fthQ (xp f L (k + 1)) := by
  rw [v]
  generalize fthQ (xp f L (k + 1)) = g
  generalize mt f (k + 1) = m
  rw [Nat.mul_left_comm, Nat.mul_assoc 2 m g, ← Nat.mul_assoc 2 2, Nat.mul_assoc 4 m g]
 refine ⟨v4, ?_, ?_⟩
 · rw [hh, v4, Nat.add_mul]
 · have gk : gF f L k = gpQ f L k * fthQ (xp f L (k + 1)) := by
    have mo := xp_mono f L k
    unfold gF gpQ
    by_cases c : xp f L k < xp f L (k + 1)
    · rw [if_pos c, Nat.one_mul, ← e1, show xp f L k - 1 = xp f L (k + 1) - 2 by omega]
    · rw [if_neg c, show xp f L k = xp f L (k + 1) by omega]
      unfold gF at e2
      exact e2
   rw [gk, v4] at ll
   generalize fthQ (xp f L (k + 1)) = gg at *
   generalize loF f L (k + 1) = lo at *
   have g2 : gpQ f L k ≤ 2 := by unfold gpQ; split <;> omega
   rw [Nat.sub_mul]
   omega
structure Gd (W : World) : Prop where
 tab : Tab W
 pow : ∀ w', Below W.heap.size W w' → Pow w'
theorem Gd.next {W W' : World} (h : Gd W) (hb : Below W.heap.size W W') : Gd W' := ⟨h.tab.next hb, fun w' hw => h.pow w' (hb.trans (hw.mono hb.size))⟩
theorem below_growQ (w : World) (k : Nat) (os : Array Obj) : Below w.heap.size w (Sort.grow (w.drewN k) os) :=
 ⟨rfl, rfl, rfl, by simp [Sort.grow, World.drewN], fun i hi => by
  show (w.heap ++ os)[i]? = w.heap[i]?
  exact Array.getElem?_append_left hi⟩
theorem ufmt_is {n : Nat} (h0 : 1 ≤ n) (h1 : n < 18446744073709551616) (W : World) (hp : Pow W) : Calls Tryz.prog 36 #[.int .u64 (n : Int), .int .i64 10] W fun e w' => e = .returned (.string (tenT n)) ∧ Below W.heap.size W w' := by
 refine (ufmt_call n h0 h1 W hp).mono ?_
 rintro e w' ⟨rfl, k, os, rfl⟩
 exact ⟨rfl, below_growQ _ _ _⟩
theorem td_pl {e : Int} (h1 : -1074 ≤ e) (h2 : e ≤ 971) : Td e (plQ e + 3) := by
 have t := td_log e (by omega) (by omega)
 have : plQ e + 3 = e * 1292913986 / 4294967296 + 1 := by unfold plQ; omega
 rw [this]; exact t
theorem five_fth {e : Int} {F : Nat} (h0 : 0 ≤ plQ e) (hp : plQ e ≤ e - 2) (hF : F % 5 ^ (plQ e).toNat = 0) : F * fthQ e % unQ e = 0 := by
 unfold fthQ unQ
 exact five_units h0 hp hF
theorem un_is (e : Int) : unQ e = 10 ^ (plQ e + (R0 : Int)).toNat := by unfold unQ; rfl
theorem par_mt {f : Nat} (hf : 1 ≤ f) (m : Nat) : mt f m % 2 = m % 2 := by
 have e : 2 ^ f = 2 * 2 ^ (f - 1) := by rw [← Nat.pow_succ']; congr 1; omega
 have d : 2 ∣ 2 ^ f := ⟨_, e⟩
 unfold mt
 split
 · rfl
 · rw [Nat.add_mod, Nat.mod_mod_of_dvd m d, e, Nat.mul_mod_right, Nat.add_zero, Nat.mod_mod]
theorem par_mg {z : Int} {f T : Nat} {L : Int} {S I : Nat} (h : Sf z f T L S I) (b : Nat) : mg S b % 2 = b % 2 := by
 obtain ⟨_, _, _, _, s2, _, _⟩ := h.fs
 unfold mg
 exact Nat.mod_mod_of_dvd b (Nat.dvd_of_mod_eq_zero s2)
theorem fine_cells {z : Int} {f T : Nat} {L : Int} {S I b : Nat} (h : Fn z f T L S I b) (m0 : mg S b ≠ 0) (W : World) :
 Calls Tryz.prog 13 #[.int .u64 (b : Int), .int .i64 z] W fun e w' => e = .returned (.tuple #[.agg #[.bool (uN S I b), .int .i64 2, .int .u64 ((mt f (mg S b) : Nat) : Int), .int .i64 (xp f L (mg S b))], .nilIface]) ∧ Below W.heap.size W w' := by
 have U := unp_any h.sf h.lt W
 have c2 : cl I (mg S b) = 2 := cl_fine m0 h.fin
 have e1 : uM I f (mg S b) = mt f (mg S b) := if_pos c2
 have e2 : uE I f L (mg S b) = xp f L (mg S b) := if_pos c2
 rw [e1, e2, c2] at U
 exact U
theorem le_bif {c : Bool} {lo D : Nat} : (bif decide (lo % D ≠ 0) || !c then lo / D + 1 else lo / D) = leU c lo D := by
 unfold leU
 by_cases z : lo % D ≠ 0
 · rw [decide_eq_true z, if_pos (Or.inl z)]; rfl
 · rw [decide_eq_false z]
   cases c
   · rw [if_pos (Or.inr rfl)]; rfl
   · rw [if_neg (fun q => by rcases q with q | q; exact z q; cases q)]; rfl
theorem mo_bif {c : Bool} {hi D : Nat} : (bif !decide (hi % D ≠ 0) && !c then hi / D - 1 else hi / D) = moU c hi D := by
 unfold moU
 by_cases z : hi % D = 0
 · rw [decide_eq_false (fun q => q z)]
   cases c
   · rw [if_pos ⟨z, rfl⟩]; rfl
   · rw [if_neg (fun q => by cases q.2)]; rfl
 · rw [decide_eq_true z, if_neg (fun q => z q.1)]; rfl
theorem any_ten {c : Bool} {lo X hi D g : Nat} (h : Rm lo X hi) (D0 : 0 < D) (lg : lo + g ≤ X) (gd : 25 * D ≤ g) : anyB c lo hi X (10 * D) = true := by
 unfold anyB
 rw [Bool.or_eq_true]
 left
 have P : 0 < 10 * D := by omega
 have a := @dn_mod X (10 * D)
 have b := Nat.mod_lt X P
 have ab := h.above
 rw [hitB_iff]
 cases c
 · exact Or.inr ⟨rfl, by omega, by omega⟩
 · exact Or.inl ⟨rfl, by omega, by omega⟩
theorem Fl.qsure {z : Int} {f T : Nat} {L : Int} {S I b : Nat} {u : ByteArray} {o : Int} {s : ByteArray} {p : Int} {t : ByteArray} {q : Int} {A : Nat} {d1 d2 : Nat → Dp} (h : Fl z f T L S I b u o s p t q A d1 d2) :
    (∃ N d, firstF (fD (decide (b % 2 = 0)) s p t q u d1 d2) 1 17 = some d ∧ 1 ≤ N ∧ N ≤ (if z = 32 then 9 else 17) ∧ fD (decide (b % 2 = 0)) s p t q u d1 d2 N = some d ∧ (∀ m, 1 ≤ m → m < N → fD (decide (b % 2 = 0)) s p t q u d1 d2 m = none) ∧
      ∀ W, Gd W → Calls Tryz.prog 5 #[.int .u64 (b : Int), .int .i64 z] W fun x w' => x = .returned (.tuple #[dcV d.1 d.2 false, .bool true, .nilIface]) ∧ Below W.heap.size W w') ∨
    ((∀ W, Gd W → Calls Tryz.prog 5 #[.int .u64 (b : Int), .int .i64 z] W fun x w' => x = .returned (.tuple #[dcV ⟨#[]⟩ 0 false, .bool false, .nilIface]) ∧ Below W.heap.size W w') ∧
      ¬ (0 ≤ -plQ (xp f L (mg S b)) ∧ -plQ (xp f L (mg S b)) ≤ 55)) := by
  obtain ⟨k, hk⟩ : ∃ k, mg S b = k + 1 := ⟨mg S b - 1, by have := h.m0; omega⟩
  have fs := h.fn.sf.fs.1
  have hm := h.fn.m
  have U := fun W => fine_cells h.fn h.m0 W
  have G := fun W => gap_is h.fn hk W
  have rm := h.rm
  have pm := par_mt fs.one (mg S b)
  rw [par_mg h.fn.sf b] at pm
  have QK := fun j => h.quick (decide (b % 2 = 0)) (j := j)
  have m53 := mt_lt fs (mg S b)
  have mp := mt_some (f := f) h.m0
  rw [hk] at hm U rm pm QK m53 mp ⊢
  have x := xp_in fs hm
  have tp := td_pl x.1 x.2
  obtain ⟨fV, fH, fL⟩ := fourths fs hm
  obtain ⟨M, X, d, M128, sc, SCL⟩ := scale_is x.1 x.2
  have F5 : ∀ F, 0 ≤ plQ (xp f L (k + 1)) → F % 5 ^ (plQ (xp f L (k + 1))).toNat = 0 → F * fthQ (xp f L (k + 1)) % unQ (xp f L (k + 1)) = 0 := fun F h0 hF => five_fth h0 (td_room tp h0) hF
  have pb : -400 ≤ plQ (xp f L (k + 1)) ∧ plQ (xp f L (k + 1)) ≤ 400 := by unfold plQ; omega
  have gp : 1 ≤ gpQ f L k ∧ gpQ f L k ≤ 2 := by unfold gpQ; split <;> omega
  have uD := un_is (xp f L (k + 1))
  generalize xp f L (k + 1) = e at *
  generalize gpQ f L k = gq at *
  generalize mt f (k + 1) = m at *
  generalize fthQ e = g at *
  generalize unQ e = D at *
  generalize plQ e = pl at *
  obtain ⟨u1, m1, s1, C1, S1, E1⟩ := qcount_is (F := 4 * m - gq) sc M128 (by omega) (by omega) (F5 _)
  obtain ⟨u2, m2, s2, C2, S2, E2⟩ := qcount_is (F := 4 * m) sc M128 (by omega) (by omega) (F5 _)
  obtain ⟨u3, m3, s3, C3, S3, E3⟩ := qcount_is (F := 4 * m + 2) sc M128 (by omega) (by omega) (F5 _)
  have a1 : ((4 * m - gq : Nat) : Int) = 4 * (m : Int) - (gq : Int) := by omega
  have a2 : ((4 * m : Nat) : Int) = 4 * (m : Int) := by omega
  have a3 : ((4 * m + 2 : Nat) : Int) = 4 * (m : Int) + 2 := by omega
  rw [a1] at C1
  rw [a2] at C2
  rw [a3] at C3
  unfold scV at C1 C2 C3 SCL
  rw [← fL] at S1
  rw [← fV] at S2
  rw [← fH] at S3
  obtain ⟨_, _, _, _, _, _, w1, w2, D0⟩ := sc
  by_cases hs : s1 = true ∧ s2 = true ∧ s3 = true
  · left
    obtain ⟨rfl, rfl, rfl⟩ := hs
    obtain ⟨v1, n1⟩ := S1 rfl
    obtain ⟨v2, n2⟩ := S2 rfl
    obtain ⟨v3, n3⟩ := S3 rfl
    clear S1 S2 S3 E1 E2 E3 F5
    have below := rm.below
    have above := rm.above
    have lg : loF f L (k + 1) + g ≤ vlF f L (k + 1) := by
      rw [fL, fV]
      have : (4 * m - gq) * g + gq * g = 4 * m * g := by rw [← Nat.add_mul, show 4 * m - gq + gq = 4 * m by omega]
      have := Nat.le_mul_of_pos_left g gp.1
      omega
    have hi63 : hiF f L (k + 1) / D < 9223372036854775808 := by
      rw [Nat.div_lt_iff_lt_mul D0, fH]
      have a : (4 * m + 2) * g ≤ 36028797018963970 * g := Nat.mul_le_mul_right g (by omega)
      omega
    have lo63 : loF f L (k + 1) / D < 9223372036854775808 := Nat.lt_of_le_of_lt (Nat.div_le_div_right (by omega)) hi63
    have vl63 : vlF f L (k + 1) / D < 9223372036854775808 := Nat.lt_of_le_of_lt (Nat.div_le_div_right (by omega)) hi63
    have hi1 : 1 ≤ hiF f L (k + 1) / D := by
      rw [Nat.le_div_iff_mul_le D0, fH, Nat.one_mul]
      have := Nat.mul_le_mul_right g (show 2 ≤ 4 * m + 2 by omega)
      omega
    have lp : 0 < loF f L (k + 1) := lo_pos (by omega)
    have hcl : ((m : Int) % 2 == 0) = decide (b % 2 = 0) := by
      rw [Bool.eq_iff_iff]
      simp only [beq_iff_eq, decide_eq_true_eq]
      omega
    have SPN := fun W (hT : Tab W) => qsp_ok (w := W) (ng := uN S I b) (k := 2) (xe := e) hT mp (by omega) gp.1 gp.2 hcl (by rw [v1]; exact lo63) (by rw [v3]; exact hi63) (by rw [v3]; exact hi1) C1 C2 C3
    rw [n1, n2, n3, v1, v2, v3, le_bif, mo_bif] at SPN
    clear C1 C2 C3 n1 n2 n3 v1 v2 v3
    have H := fun S S0 => holds_any (c := decide (b % 2 = 0)) (S := S) rm D0 S0
    have NP := fun S S0 ev a => near_pick (c := decide (b % 2 = 0)) (S := S) rm D0 S0 ev a
    have A10 := any_ten (c := decide (b % 2 = 0)) rm D0 lg w1
    have HU := fun Z => hit_units (c := decide (b % 2 = 0)) (lo := loF f L (k + 1)) (hi := hiF f L (k + 1)) (Z := Z) D0 (by omega)
    have AO := fun S0 Z hz gz => any_of (c := decide (b % 2 = 0)) (S := 10 ^ S0) (Z := Z) rm (ten_pos S0) hz gz
    clear fV fH fL rm lg
    generalize loF f L (k + 1) = lo at *
    generalize hiF f L (k + 1) = hi at *
    generalize vlF f L (k + 1) = V at *
    generalize hc : decide (b % 2 = 0) = c at *
    have le0 : 0 < leU c lo D := by
      apply Nat.pos_of_ne_zero
      intro z0
      have y := (HU 0).2 ⟨by omega, Nat.zero_le _⟩
      rw [hitB_iff] at y
      rcases y with ⟨_, y, _⟩ | ⟨_, y, _⟩ <;> omega
    have mo63 : moU c hi D < 9223372036854775808 := by
      unfold moU
      split <;> omega
    obtain ⟨k0, k18, hold, stop⟩ := step_ex (a := leU c lo D) (m := moU c hi D) le0 mo63
    have k1 : 1 ≤ k0 := by
      apply Nat.pos_of_ne_zero
      intro z0
      subst z0
      rw [show (10 : Nat) ^ (0 + 1) = 10 from rfl, H 10 (by decide), A10] at stop
      cases stop
    have yes := hold (k0 - 1) (by omega)
    rw [show k0 - 1 + 1 = k0 by omega] at yes
    have S0 : 0 < 10 ^ k0 := ten_pos k0
    have ev : 10 ^ k0 % 2 = 0 := by
      rw [show k0 = (k0 - 1) + 1 by omega, Nat.pow_succ]
      omega
    have S18 : 10 ^ k0 ≤ 10 ^ 18 := Nat.pow_le_pow_right (by decide) k18
    have S63 : 10 ^ k0 < 9223372036854775808 := by
      have : (10 : Nat) ^ 18 < 9223372036854775808 := by decide
      omega
    have STP := fun W => step_ok (a := leU c lo D) (m := moU c hi D) (v := V / D) (e := decide (V % D ≠ 0)) (R := 10 ^ k0) (show Hid _ from (by omega : moU c hi D < 18446744073709551616)) k18 rfl hold stop W
    rw [H _ S0] at yes
    rw [H _ (ten_pos (k0 + 1))] at stop
    obtain ⟨pk, ph⟩ := NP _ S0 ev yes
    have NEA := fun W => near_is (a := leU c lo D) (m := moU c hi D) (v := V / D) (s := 10 ^ k0) (e := decide (V % D ≠ 0)) S0 S63 vl63 W
    generalize nrQ (V / D) (decide (V % D ≠ 0)) (leU c lo D) (10 ^ k0) = n at *
    have eD : 10 ^ k0 * D = 10 ^ (k0 + (pl + (R0 : Int)).toNat) := by rw [uD, ← Nat.pow_add]
    have eD1 : 10 ^ (k0 + 1) * D = 10 ^ (k0 + (pl + (R0 : Int)).toNat + 1) := by rw [uD, ← Nat.pow_add, show k0 + 1 + (pl + (R0 : Int)).toNat = k0 + (pl + (R0 : Int)).toNat + 1 by omega]
    have nh := (HU (n * 10 ^ k0)).1 (by rw [Nat.mul_assoc]; exact ph)
    rw [eD] at yes pk ph
    rw [eD1] at stop
    obtain ⟨N, dd, Z, q1, q2, q3, q4, q5, q6, q7⟩ := QK _ yes stop
    rw [pk] at q6
    have q6' := Option.some.inj q6
    subst q6'
    have n0 : 1 ≤ n := by
      apply Nat.pos_of_ne_zero
      intro z0
      rw [z0, Nat.zero_mul] at nh
      omega
    have n63 : n < 9223372036854775808 := by
      have := Nat.le_mul_of_pos_right n S0
      omega
    have n10 : n % 10 ≠ 0 := by
      intro z0
      obtain ⟨y, hy⟩ : ∃ y, n = y * 10 := ⟨n / 10, by omega⟩
      have a := AO (k0 + (pl + (R0 : Int)).toNat + 1) _ ph (by rw [hy, Nat.pow_succ, Nat.mul_assoc, Nat.mul_comm 10, Nat.mul_mod_left])
      rw [a] at stop
      cases stop
    have r0 : (R0 : Int) = 1100 := rfl
    have dx := ten_dx (n := n) (j := (k0 : Int) + pl) n10 (Nat.lt_of_lt_of_le n63 (by decide)) (by omega) (by omega)
    rw [show ((k0 : Int) + pl + (R0 : Int)).toNat = k0 + (pl + (R0 : Int)).toNat by omega] at dx
    obtain ⟨y1, y2⟩ := Dx.uniq dx q7
    have sz := ten_size n
    have s20 := ten_short (n := n) (m := 20) (Nat.lt_of_lt_of_le n63 (by decide)) (by decide)
    refine ⟨N, dd, q1, q2, q3, q4, q5, fun W gd => ?_⟩
    have SHT := fun W (hT : Tab W) hP => qsh_ok (w := W) (j := k0) (n := n) (R := 10 ^ k0) (tx := tenT n) hT hP (by omega) (by omega) (by omega) (by omega) SPN STP NEA (fun W hp => ufmt_is n0 (by omega) W hp)
    rw [sz, show ((Lib.nDigits n : Nat) : Int) + (k0 : Int) + pl = (Lib.nDigits n : Int) + ((k0 : Int) + pl) by omega, y1, y2] at SHT
    exact qst_ok gd.tab gd.pow U SCL G SHT
  · right
    have hs' : Hid (s1 = false ∨ (s1 = true ∧ (s2 = false ∨ (s2 = true ∧ s3 = false)))) := by
      show _ ∨ _
      cases s1 <;> cases s2 <;> cases s3 <;> simp_all
    refine ⟨fun W gd => ?_, ?_⟩
    · have SPN := fun W (hT : Tab W) => qsp_no (w := W) (ng := uN S I b) (k := 2) (xe := e) hT mp (by omega) gp.1 gp.2 hs' C1 C2 C3
      have SHT := fun W (hT : Tab W) (_ : ∀ w', Below W.heap.size W w' → Pow w') => qsh_no (w := W) (a := 0) (mo := 0) (v := 0) (mr := false) hT SPN
      exact qst_ok gd.tab gd.pow U SCL G SHT
    · rcases hs' with y | ⟨_, y | ⟨_, y⟩⟩
      · exact E1 y
      · exact E2 y
      · exact E3 y
theorem q_bad {b : Nat} {z n : Int} (h : Bad b z n) (w : World) :
 Calls Tryz.prog 5 #[.int .u64 (b : Int), .int .i64 z] w fun e w' => e = .returned (.tuple #[dcV ⟨#[]⟩ 0 false, .bool false, .iface 42 (.int .i64 n)]) ∧ Below w.heap.size w w' := by
 rcases h with ⟨h, rfl⟩ | ⟨rfl, h, rfl⟩ | ⟨f, T, L, S, I, h, hb, hi, rfl⟩
 · exact qst_err (fun W => unp_no h _ W) w
 · exact qst_err (fun W => unp_big h W) w
 · have i1 := h.fs.2.2.2.2.2.1
   refine qst_not ?_ (fun W => unp_any h hb W) w
   rcases cl_cases I (mg S b) with q | q | q | q <;> omega
theorem q_zero {z : Int} {f T : Nat} {L : Int} {S I b : Nat} (h : Fn z f T L S I b) (m0 : mg S b = 0) (w : World) :
 Calls Tryz.prog 5 #[.int .u64 (b : Int), .int .i64 z] w fun e w' => e = .returned (.tuple #[dcV ⟨#[]⟩ 0 false, .bool false, .iface 42 (.int .i64 1)]) ∧ Below w.heap.size w w' := by
 refine qst_not ?_ (fun W => unp_any h.sf h.lt W) w
 rw [m0, cl_zero]
 decide
theorem one_digit {c : Nat} (c1 : 49 ≤ c) (c9 : c ≤ 57) (p : Int) (h0 : -1000 ≤ p) (h1 : p ≤ 1000) {j k : Nat} (hj : c - 48 = j) (hk : (p + (R0 : Int) - 1).toNat = k) : Dx ⟨#[UInt8.ofNat c]⟩ p (j * 10 ^ k) := by
 have e : (UInt8.ofNat c).toNat = c := by
  rw [UInt8.toNat_ofNat']
  omega
 have s1 : (⟨#[UInt8.ofNat c]⟩ : ByteArray).size = 1 := rfl
 have d0 : dgt ⟨#[UInt8.ofNat c]⟩ 0 = c := by
  rw [dgt_lt (by rw [s1]; decide)]
  exact e
 have dg : DG ⟨#[UInt8.ofNat c]⟩ := fun i hi => by
  rw [← dgt_lt hi, show i = 0 by rw [s1] at hi; omega, d0]
  omega
 refine ⟨Or.inr (nf_vn ⟨by rw [s1]; decide, dg, by rw [d0]; omega, by show dgt _ 0 ≠ 48; rw [d0]; omega⟩ (by rw [s1]; decide) (by omega) (by omega)), ?_, ?_⟩
 · rw [s1]; unfold R0; omega
 · rw [s1]
   show (10 * 0 + (dgt ⟨#[UInt8.ofNat c]⟩ 0 - 48)) * _ = _
   rw [d0, Nat.mul_zero, Nat.zero_add, hj]
   rw [← hk]
   rfl
theorem fl_place {z : Int} {f T : Nat} {L : Int} {S I b : Nat} {u : ByteArray} {o : Int} {s : ByteArray} {p : Int} {t : ByteArray} {q : Int} {A : Nat} {d1 d2 : Nat → Dp} (h : Fl z f T L S I b u o s p t q A d1 d2) {B : Nat} (h1 : 10 ^ B ≤ vlF f L (mg S b)) (h2 : vlF f L (mg S b) < 10 ^ (B + 1)) : A = B + 1 := by
 obtain ⟨_, a, b⟩ := h.g.some h.pos
 rw [h.hA] at a b
 rw [show ((A : Int) - 1).toNat = A - 1 by omega] at a
 rw [show ((A : Int)).toNat = A by omega] at b
 have x1 := (Nat.pow_lt_pow_iff_right (a := 10) (by decide)).1 (Nat.lt_of_le_of_lt h1 b)
 have x2 := (Nat.pow_lt_pow_iff_right (a := 10) (by decide)).1 (Nat.lt_of_le_of_lt a h2)
 omega
theorem firstF_at {f : Nat → Option Dp} {d : Dp} (h : f 1 = some d) : firstF f 1 17 = some d := by
 show firstF f 1 (16 + 1) = some d
 unfold firstF
 rw [h]
theorem fn100 : Fn 64 52 2047 (-1074) 9223372036854775808 9218868437227405312 4636737291354636288 := ⟨Or.inr ⟨rfl, rfl, rfl, rfl, rfl, rfl⟩, by decide, by decide +kernel⟩
theorem k100 : 10 ^ 1102 ≤ vlF 52 (-1074) (mg 9223372036854775808 4636737291354636288) ∧ vlF 52 (-1074) (mg 9223372036854775808 4636737291354636288) < 10 ^ (1102 + 1) ∧ pickU (decide (4636737291354636288 % 2 = 0)) (loF 52 (-1074) (mg 9223372036854775808 4636737291354636288)) (hiF 52 (-1074) (mg 9223372036854775808 4636737291354636288)) (vlF 52 (-1074) (mg 9223372036854775808 4636737291354636288)) (10 ^ (1102 + 1 - 1)) = some (1 * 10 ^ 1102) := by decide +kernel
theorem pl100 : 0 ≤ -plQ (xp 52 (-1074) (mg 9223372036854775808 4636737291354636288)) ∧ -plQ (xp 52 (-1074) (mg 9223372036854775808 4636737291354636288)) ≤ 55 := by decide +kernel
theorem q_100 (w : World) (gd : Gd w) : Calls Tryz.prog 5 #[.int .u64 4636737291354636288, .int .i64 64] w fun e w' => e = .returned (.tuple #[.agg #[.string ⟨#[49]⟩, .int .i64 3, .bool false], .bool true, .nilIface]) ∧ Below w.heap.size w w' := by
 obtain ⟨k1, k2, k3⟩ := k100
 obtain ⟨u, o, s, p, t, q, A, d1, d2, h⟩ := fl_ex fn100 (by decide +kernel)
 have hA := fl_place h k1 k2
 subst hA
 rcases h.pick (decide (4636737291354636288 % 2 = 0)) (n := 1) (by decide) (by decide) with ⟨_, b⟩ | ⟨d, Z, a, b, c, _⟩
 · rw [k3] at b; cases b
 · rw [k3] at b
   have bz : 1 * 10 ^ 1102 = Z := Option.some.inj b
   have x := one_digit (c := 49) (by decide) (by decide) 3 (by decide) (by decide) (j := 1) (k := 1102) rfl rfl
   rw [bz] at x
   obtain ⟨y1, y2⟩ := Dx.uniq c x
   rcases h.qsure with ⟨N, dd, f1, _, _, _, _, H⟩ | ⟨_, no⟩
   · rw [firstF_at a] at f1
     cases f1
     have r := H w gd
     rw [y1, y2] at r
     exact r
   · exact absurd pl100 no
theorem sure21 {w : World} (gd : Gd w) :
 Calls Tryz.prog 8 #[] w fun x w' => x = .returned (.bool true) ∧ Below w.heap.size w w' := by
 have F0 : Hid (Below w.heap.size w w) := Below.refl _ _
 go_enter Tryz.func8, Tryz.ntmps8
 go_wp2_with fail
 all_goals first | (exfalso; omega) | skip
 refine (q_100 _ (gd.next F0.out)).mono ?_
 rintro o1 w1 ⟨rfl, bb⟩
 have F1 : Hid (Below w.heap.size w w1) := (F0.out).trans (bb.mono (F0.out).size)
 clear F0
 clear bb
 have le0 := (F1.out).size
 have F2 : Hid (Bk (w1.alloc (.cells #[.string ⟨#[49]⟩, .int .i64 3, .bool false] 24)) (w1.heap.size) [.string ⟨#[49]⟩, .int .i64 3, .bool false] ∧ Below w.heap.size w (w1.alloc (.cells #[.string ⟨#[49]⟩, .int .i64 3, .bool false] 24))) := ⟨Bk.newL w1 [.string ⟨#[49]⟩, .int .i64 3, .bool false] 24, (F1.out).alloc ((F1.out).size) _⟩
 clear F1
 go_upto_region 2 with fail
 generalize (w1.alloc (.cells #[.string ⟨#[49]⟩, .int .i64 3, .bool false] 24)) = w2 at *
 have l1_0 := F2.out.1.lt
 have a1_0_0 := F2.out.1.cell 0 _ rfl
 have f1_0_0 := F2.out.1.fz 0
 have a1_0_1 := F2.out.1.cell 1 _ rfl
 have f1_0_1 := F2.out.1.fz 1
 have a1_0_2 := F2.out.1.cell 2 _ rfl
 have f1_0_2 := F2.out.1.fz 2
 go_wp2
 go_ret
 exact ⟨rfl, F2.out.2⟩
theorem qi_err {w : World} {b z : Int} {T : TypeId} {V : Value} (gd : Gd w) (HQ : ∀ W, Gd W → Calls Tryz.prog 5 #[.int .u64 b, .int .i64 z] W fun e w' => e = .returned (.tuple #[.agg #[.string ⟨#[]⟩, .int .i64 0, .bool false], .bool false, .iface T V]) ∧ Below W.heap.size W w')  :
 Calls Tryz.prog 4 #[.int .u64 b, .int .i64 z] w fun x w' => x = .returned (.bool true) ∧ Below w.heap.size w w' := by
 have F0 : Hid (Below w.heap.size w w) := Below.refl _ _
 go_enter Tryz.func4, Tryz.ntmps4
 go_wp2_with fail
 all_goals first | (exfalso; omega) | skip
 refine (HQ _ (gd.next F0.out)).mono ?_
 rintro o1 w1 ⟨rfl, bb⟩
 have F1 : Hid (Below w.heap.size w w1) := (F0.out).trans (bb.mono (F0.out).size)
 clear F0
 clear bb
 have le0 := (F1.out).size
 have F2 : Hid (Bk (w1.alloc (.cells #[.string ⟨#[]⟩, .int .i64 0, .bool false] 24)) (w1.heap.size) [.string ⟨#[]⟩, .int .i64 0, .bool false] ∧ Below w.heap.size w (w1.alloc (.cells #[.string ⟨#[]⟩, .int .i64 0, .bool false] 24))) := ⟨Bk.newL w1 [.string ⟨#[]⟩, .int .i64 0, .bool false] 24, (F1.out).alloc ((F1.out).size) _⟩
 clear F1
 go_upto_region 2 with fail
 generalize (w1.alloc (.cells #[.string ⟨#[]⟩, .int .i64 0, .bool false] 24)) = w2 at *
 have l1_0 := F2.out.1.lt
 have a1_0_0 := F2.out.1.cell 0 _ rfl
 have f1_0_0 := F2.out.1.fz 0
 have a1_0_1 := F2.out.1.cell 1 _ rfl
 have f1_0_1 := F2.out.1.fz 1
 have a1_0_2 := F2.out.1.cell 2 _ rfl
 have f1_0_2 := F2.out.1.fz 2
 go_wp2_with fail
 all_goals first | (exfalso; omega) | skip
 refine (sure21 (gd.next F2.out.2)).mono ?_
 rintro o3 w3 ⟨rfl, bb⟩
 have F3 : Hid (Bk w3 (w1.heap.size) [.string ⟨#[]⟩, .int .i64 0, .bool false] ∧ Below w.heap.size w w3) := ⟨(F2.out.1).step bb, (F2.out.2).trans (bb.mono (F2.out.2).size)⟩
 clear F2
 clear bb
 go_wp2
 go_ret
 exact ⟨rfl, F3.out.2⟩
theorem qi_not {w : World} {b z : Int} (gd : Gd w) (HQ : ∀ W, Gd W → Calls Tryz.prog 5 #[.int .u64 b, .int .i64 z] W fun e w' => e = .returned (.tuple #[.agg #[.string ⟨#[]⟩, .int .i64 0, .bool false], .bool false, .nilIface]) ∧ Below W.heap.size W w')  :
 Calls Tryz.prog 4 #[.int .u64 b, .int .i64 z] w fun x w' => x = .returned (.bool true) ∧ Below w.heap.size w w' := by
 have F0 : Hid (Below w.heap.size w w) := Below.refl _ _
 go_enter Tryz.func4, Tryz.ntmps4
 go_wp2_with fail
 all_goals first | (exfalso; omega) | skip
 refine (HQ _ (gd.next F0.out)).mono ?_
 rintro o1 w1 ⟨rfl, bb⟩
 have F1 : Hid (Below w.heap.size w w1) := (F0.out).trans (bb.mono (F0.out).size)
 clear F0
 clear bb
 have le0 := (F1.out).size
 have F2 : Hid (Bk (w1.alloc (.cells #[.string ⟨#[]⟩, .int .i64 0, .bool false] 24)) (w1.heap.size) [.string ⟨#[]⟩, .int .i64 0, .bool false] ∧ Below w.heap.size w (w1.alloc (.cells #[.string ⟨#[]⟩, .int .i64 0, .bool false] 24))) := ⟨Bk.newL w1 [.string ⟨#[]⟩, .int .i64 0, .bool false] 24, (F1.out).alloc ((F1.out).size) _⟩
 clear F1
 go_upto_region 2 with fail
 generalize (w1.alloc (.cells #[.string ⟨#[]⟩, .int .i64 0, .bool false] 24)) = w2 at *
 have l1_0 := F2.out.1.lt
 have a1_0_0 := F2.out.1.cell 0 _ rfl
 have f1_0_0 := F2.out.1.fz 0
 have a1_0_1 := F2.out.1.cell 1 _ rfl
 have f1_0_1 := F2.out.1.fz 1
 have a1_0_2 := F2.out.1.cell 2 _ rfl
 have f1_0_2 := F2.out.1.fz 2
 go_wp2_with fail
 all_goals first | (exfalso; omega) | skip
 refine (sure21 (gd.next F2.out.2)).mono ?_
 rintro o3 w3 ⟨rfl, bb⟩
 have F3 : Hid (Bk w3 (w1.heap.size) [.string ⟨#[]⟩, .int .i64 0, .bool false] ∧ Below w.heap.size w w3) := ⟨(F2.out.1).step bb, (F2.out.2).trans (bb.mono (F2.out.2).size)⟩
 clear F2
 clear bb
 go_wp2
 go_ret
 exact ⟨rfl, F3.out.2⟩
theorem qi_32_0 {w : World} {b d2 : Int} {d1 : ByteArray} (gd : Gd w) (n3 : d1.size = 1) (HQ : ∀ W, Gd W → Calls Tryz.prog 5 #[.int .u64 b, .int .i64 32] W fun e w' => e = .returned (.tuple #[.agg #[.string d1, .int .i64 d2, .bool false], .bool true, .nilIface]) ∧ Below W.heap.size W w') (HI : ∀ W, Calls Tryz.prog 11 #[.agg #[.string d1, .int .i64 d2, .bool false], .int .u64 b, .int .i64 32] W fun e w' => e = .returned (.tuple #[.bool true, .nilIface]) ∧ Below W.heap.size W w') :
 Calls Tryz.prog 4 #[.int .u64 b, .int .i64 32] w fun x w' => x = .returned (.bool true) ∧ Below w.heap.size w w' := by
 have m0 : ¬ (d1.size : Int) < 1 := by omega
 have m1 : ¬ 9 < (d1.size : Int) := by omega
 have m2 : ¬ (1 : Int) < (d1.size : Int) := by omega
 have wn : IntKind.i64.wrap ((d1.size : Int) - 1) = (d1.size : Int) - 1 := by rw [IntKind.wrap_i64]; omega
 have F0 : Hid (Below w.heap.size w w) := Below.refl _ _
 go_enter Tryz.func4, Tryz.ntmps4
 go_wp2_with fail
 all_goals first | (exfalso; omega) | skip
 refine (HQ _ (gd.next F0.out)).mono ?_
 rintro o1 w1 ⟨rfl, bb⟩
 have F1 : Hid (Below w.heap.size w w1) := (F0.out).trans (bb.mono (F0.out).size)
 clear F0
 clear bb
 have le0 := (F1.out).size
 have F2 : Hid (Bk (w1.alloc (.cells #[.string d1, .int .i64 d2, .bool false] 24)) (w1.heap.size) [.string d1, .int .i64 d2, .bool false] ∧ Below w.heap.size w (w1.alloc (.cells #[.string d1, .int .i64 d2, .bool false] 24))) := ⟨Bk.newL w1 [.string d1, .int .i64 d2, .bool false] 24, (F1.out).alloc ((F1.out).size) _⟩
 clear F1
 go_upto_region 2 with fail
 generalize (w1.alloc (.cells #[.string d1, .int .i64 d2, .bool false] 24)) = w2 at *
 have l1_0 := F2.out.1.lt
 have a1_0_0 := F2.out.1.cell 0 _ rfl
 have f1_0_0 := F2.out.1.fz 0
 have a1_0_1 := F2.out.1.cell 1 _ rfl
 have f1_0_1 := F2.out.1.fz 1
 have a1_0_2 := F2.out.1.cell 2 _ rfl
 have f1_0_2 := F2.out.1.fz 2
 go_wp2_with fail
 all_goals first | (exfalso; omega) | skip
 refine (HI _).mono ?_
 rintro o3 w3 ⟨rfl, bb⟩
 have F3 : Hid (Bk w3 (w1.heap.size) [.string d1, .int .i64 d2, .bool false] ∧ Below w.heap.size w w3) := ⟨(F2.out.1).step bb, (F2.out.2).trans (bb.mono (F2.out.2).size)⟩
 clear F2
 clear bb
 clear l1_0 a1_0_0 f1_0_0 a1_0_1 f1_0_1 a1_0_2 f1_0_2
 have l2_0 := F3.out.1.lt
 have a2_0_0 := F3.out.1.cell 0 _ rfl
 have f2_0_0 := F3.out.1.fz 0
 have a2_0_1 := F3.out.1.cell 1 _ rfl
 have f2_0_1 := F3.out.1.fz 1
 have a2_0_2 := F3.out.1.cell 2 _ rfl
 have f2_0_2 := F3.out.1.fz 2
 go_wp2_with fail
 all_goals first | (exfalso; omega) | skip
 refine (sure21 (gd.next F3.out.2)).mono ?_
 rintro o4 w4 ⟨rfl, bb⟩
 have F4 : Hid (Bk w4 (w1.heap.size) [.string d1, .int .i64 d2, .bool false] ∧ Below w.heap.size w w4) := ⟨(F3.out.1).step bb, (F3.out.2).trans (bb.mono (F3.out.2).size)⟩
 clear F3
 clear bb
 go_wp2
 go_ret
 exact ⟨rfl, F4.out.2⟩
theorem qi_32_1 {w : World} {b d2 : Int} {d1 : ByteArray} (gd : Gd w) (n2 : d1.size ≤ 9) (n3 : 1 < d1.size) (HQ : ∀ W, Gd W → Calls Tryz.prog 5 #[.int .u64 b, .int .i64 32] W fun e w' => e = .returned (.tuple #[.agg #[.string d1, .int .i64 d2, .bool false], .bool true, .nilIface]) ∧ Below W.heap.size W w') (HI : ∀ W, Calls Tryz.prog 11 #[.agg #[.string d1, .int .i64 d2, .bool false], .int .u64 b, .int .i64 32] W fun e w' => e = .returned (.tuple #[.bool true, .nilIface]) ∧ Below W.heap.size W w') (HB : ∀ W, Calls Tryz.prog 12 #[.int .u64 b, .int .i64 32, .int .i64 ((d1.size : Int) - 1)] W fun e w' => e = .returned (.tuple #[.bool false, .nilIface]) ∧ Below W.heap.size W w') :
 Calls Tryz.prog 4 #[.int .u64 b, .int .i64 32] w fun x w' => x = .returned (.bool true) ∧ Below w.heap.size w w' := by
 have m0 : ¬ (d1.size : Int) < 1 := by omega
 have m1 : ¬ 9 < (d1.size : Int) := by omega
 have m2 : (1 : Int) < (d1.size : Int) := by omega
 have wn : IntKind.i64.wrap ((d1.size : Int) - 1) = (d1.size : Int) - 1 := by rw [IntKind.wrap_i64]; omega
 have F0 : Hid (Below w.heap.size w w) := Below.refl _ _
 go_enter Tryz.func4, Tryz.ntmps4
 go_wp2_with fail
 all_goals first | (exfalso; omega) | skip
 refine (HQ _ (gd.next F0.out)).mono ?_
 rintro o1 w1 ⟨rfl, bb⟩
 have F1 : Hid (Below w.heap.size w w1) := (F0.out).trans (bb.mono (F0.out).size)
 clear F0
 clear bb
 have le0 := (F1.out).size
 have F2 : Hid (Bk (w1.alloc (.cells #[.string d1, .int .i64 d2, .bool false] 24)) (w1.heap.size) [.string d1, .int .i64 d2, .bool false] ∧ Below w.heap.size w (w1.alloc (.cells #[.string d1, .int .i64 d2, .bool false] 24))) := ⟨Bk.newL w1 [.string d1, .int .i64 d2, .bool false] 24, (F1.out).alloc ((F1.out).size) _⟩
 clear F1
 go_upto_region 2 with fail
 generalize (w1.alloc (.cells #[.string d1, .int .i64 d2, .bool false] 24)) = w2 at *
 have l1_0 := F2.out.1.lt
 have a1_0_0 := F2.out.1.cell 0 _ rfl
 have f1_0_0 := F2.out.1.fz 0
 have a1_0_1 := F2.out.1.cell 1 _ rfl
 have f1_0_1 := F2.out.1.fz 1
 have a1_0_2 := F2.out.1.cell 2 _ rfl
 have f1_0_2 := F2.out.1.fz 2
 go_wp2_with fail
 all_goals first | (exfalso; omega) | skip
 refine (HI _).mono ?_
 rintro o3 w3 ⟨rfl, bb⟩
 have F3 : Hid (Bk w3 (w1.heap.size) [.string d1, .int .i64 d2, .bool false] ∧ Below w.heap.size w w3) := ⟨(F2.out.1).step bb, (F2.out.2).trans (bb.mono (F2.out.2).size)⟩
 clear F2
 clear bb
 clear l1_0 a1_0_0 f1_0_0 a1_0_1 f1_0_1 a1_0_2 f1_0_2
 have l2_0 := F3.out.1.lt
 have a2_0_0 := F3.out.1.cell 0 _ rfl
 have f2_0_0 := F3.out.1.fz 0
 have a2_0_1 := F3.out.1.cell 1 _ rfl
 have f2_0_1 := F3.out.1.fz 1
 have a2_0_2 := F3.out.1.cell 2 _ rfl
 have f2_0_2 := F3.out.1.fz 2
 go_wp2_with fail
 all_goals first | (exfalso; omega) | skip
 refine (HB _).mono ?_
 rintro o4 w4 ⟨rfl, bb⟩
 have F4 : Hid (Bk w4 (w1.heap.size) [.string d1, .int .i64 d2, .bool false] ∧ Below w.heap.size w w4) := ⟨(F3.out.1).step bb, (F3.out.2).trans (bb.mono (F3.out.2).size)⟩
 clear F3
 clear bb
 clear l2_0 a2_0_0 f2_0_0 a2_0_1 f2_0_1 a2_0_2 f2_0_2
 have l3_0 := F4.out.1.lt
 have a3_0_0 := F4.out.1.cell 0 _ rfl
 have f3_0_0 := F4.out.1.fz 0
 have a3_0_1 := F4.out.1.cell 1 _ rfl
 have f3_0_1 := F4.out.1.fz 1
 have a3_0_2 := F4.out.1.cell 2 _ rfl
 have f3_0_2 := F4.out.1.fz 2
 go_wp2_with fail
 all_goals first | (exfalso; omega) | skip
 refine (sure21 (gd.next F4.out.2)).mono ?_
 rintro o5 w5 ⟨rfl, bb⟩
 have F5 : Hid (Bk w5 (w1.heap.size) [.string d1, .int .i64 d2, .bool false] ∧ Below w.heap.size w w5) := ⟨(F4.out.1).step bb, (F4.out.2).trans (bb.mono (F4.out.2).size)⟩
 clear F4
 clear bb
 go_wp2
 go_ret
 exact ⟨rfl, F5.out.2⟩
theorem qi_64_0 {w : World} {b z d2 : Int} {d1 : ByteArray} (gd : Gd w) (hz : (z == 32) = false) (n3 : d1.size = 1) (HQ : ∀ W, Gd W → Calls Tryz.prog 5 #[.int .u64 b, .int .i64 z] W fun e w' => e = .returned (.tuple #[.agg #[.string d1, .int .i64 d2, .bool false], .bool true, .nilIface]) ∧ Below W.heap.size W w') (HI : ∀ W, Calls Tryz.prog 11 #[.agg #[.string d1, .int .i64 d2, .bool false], .int .u64 b, .int .i64 z] W fun e w' => e = .returned (.tuple #[.bool true, .nilIface]) ∧ Below W.heap.size W w') :
 Calls Tryz.prog 4 #[.int .u64 b, .int .i64 z] w fun x w' => x = .returned (.bool true) ∧ Below w.heap.size w w' := by
 have m0 : ¬ (d1.size : Int) < 1 := by omega
 have m1 : ¬ 17 < (d1.size : Int) := by omega
 have m2 : ¬ (1 : Int) < (d1.size : Int) := by omega
 have wn : IntKind.i64.wrap ((d1.size : Int) - 1) = (d1.size : Int) - 1 := by rw [IntKind.wrap_i64]; omega
 have F0 : Hid (Below w.heap.size w w) := Below.refl _ _
 go_enter Tryz.func4, Tryz.ntmps4
 go_wp2_with fail
 all_goals first | (exfalso; omega) | skip
 refine (HQ _ (gd.next F0.out)).mono ?_
 rintro o1 w1 ⟨rfl, bb⟩
 have F1 : Hid (Below w.heap.size w w1) := (F0.out).trans (bb.mono (F0.out).size)
 clear F0
 clear bb
 have le0 := (F1.out).size
 have F2 : Hid (Bk (w1.alloc (.cells #[.string d1, .int .i64 d2, .bool false] 24)) (w1.heap.size) [.string d1, .int .i64 d2, .bool false] ∧ Below w.heap.size w (w1.alloc (.cells #[.string d1, .int .i64 d2, .bool false] 24))) := ⟨Bk.newL w1 [.string d1, .int .i64 d2, .bool false] 24, (F1.out).alloc ((F1.out).size) _⟩
 clear F1
 go_upto_region 2 with fail
 generalize (w1.alloc (.cells #[.string d1, .int .i64 d2, .bool false] 24)) = w2 at *
 have l1_0 := F2.out.1.lt
 have a1_0_0 := F2.out.1.cell 0 _ rfl
 have f1_0_0 := F2.out.1.fz 0
 have a1_0_1 := F2.out.1.cell 1 _ rfl
 have f1_0_1 := F2.out.1.fz 1
 have a1_0_2 := F2.out.1.cell 2 _ rfl
 have f1_0_2 := F2.out.1.fz 2
 go_wp2_with fail
 all_goals first | (exfalso; omega) | skip
 refine (HI _).mono ?_
 rintro o3 w3 ⟨rfl, bb⟩
 have F3 : Hid (Bk w3 (w1.heap.size) [.string d1, .int .i64 d2, .bool false] ∧ Below w.heap.size w w3) := ⟨(F2.out.1).step bb, (F2.out.2).trans (bb.mono (F2.out.2).size)⟩
 clear F2
 clear bb
 clear l1_0 a1_0_0 f1_0_0 a1_0_1 f1_0_1 a1_0_2 f1_0_2
 have l2_0 := F3.out.1.lt
 have a2_0_0 := F3.out.1.cell 0 _ rfl
 have f2_0_0 := F3.out.1.fz 0
 have a2_0_1 := F3.out.1.cell 1 _ rfl
 have f2_0_1 := F3.out.1.fz 1
 have a2_0_2 := F3.out.1.cell 2 _ rfl
 have f2_0_2 := F3.out.1.fz 2
 go_wp2_with fail
 all_goals first | (exfalso; omega) | skip
 refine (sure21 (gd.next F3.out.2)).mono ?_
 rintro o4 w4 ⟨rfl, bb⟩
 have F4 : Hid (Bk w4 (w1.heap.size) [.string d1, .int .i64 d2, .bool false] ∧ Below w.heap.size w w4) := ⟨(F3.out.1).step bb, (F3.out.2).trans (bb.mono (F3.out.2).size)⟩
 clear F3
 clear bb
 go_wp2
 go_ret
 exact ⟨rfl, F4.out.2⟩
theorem qi_64_1 {w : World} {b z d2 : Int} {d1 : ByteArray} (gd : Gd w) (hz : (z == 32) = false) (n2 : d1.size ≤ 17) (n3 : 1 < d1.size) (HQ : ∀ W, Gd W → Calls Tryz.prog 5 #[.int .u64 b, .int .i64 z] W fun e w' => e = .returned (.tuple #[.agg #[.string d1, .int .i64 d2, .bool false], .bool true, .nilIface]) ∧ Below W.heap.size W w') (HI : ∀ W, Calls Tryz.prog 11 #[.agg #[.string d1, .int .i64 d2, .bool false], .int .u64 b, .int .i64 z] W fun e w' => e = .returned (.tuple #[.bool true, .nilIface]) ∧ Below W.heap.size W w') (HB : ∀ W, Calls Tryz.prog 12 #[.int .u64 b, .int .i64 z, .int .i64 ((d1.size : Int) - 1)] W fun e w' => e = .returned (.tuple #[.bool false, .nilIface]) ∧ Below W.heap.size W w') :
 Calls Tryz.prog 4 #[.int .u64 b, .int .i64 z] w fun x w' => x = .returned (.bool true) ∧ Below w.heap.size w w' := by
 have m0 : ¬ (d1.size : Int) < 1 := by omega
 have m1 : ¬ 17 < (d1.size : Int) := by omega
 have m2 : (1 : Int) < (d1.size : Int) := by omega
 have wn : IntKind.i64.wrap ((d1.size : Int) - 1) = (d1.size : Int) - 1 := by rw [IntKind.wrap_i64]; omega
 have F0 : Hid (Below w.heap.size w w) := Below.refl _ _
 go_enter Tryz.func4, Tryz.ntmps4
 go_wp2_with fail
 all_goals first | (exfalso; omega) | skip
 refine (HQ _ (gd.next F0.out)).mono ?_
 rintro o1 w1 ⟨rfl, bb⟩
 have F1 : Hid (Below w.heap.size w w1) := (F0.out).trans (bb.mono (F0.out).size)
 clear F0
 clear bb
 have le0 := (F1.out).size
 have F2 : Hid (Bk (w1.alloc (.cells #[.string d1, .int .i64 d2, .bool false] 24)) (w1.heap.size) [.string d1, .int .i64 d2, .bool false] ∧ Below w.heap.size w (w1.alloc (.cells #[.string d1, .int .i64 d2, .bool false] 24))) := ⟨Bk.newL w1 [.string d1, .int .i64 d2, .bool false] 24, (F1.out).alloc ((F1.out).size) _⟩
 clear F1
 go_upto_region 2 with fail
 generalize (w1.alloc (.cells #[.string d1, .int .i64 d2, .bool false] 24)) = w2 at *
 have l1_0 := F2.out.1.lt
 have a1_0_0 := F2.out.1.cell 0 _ rfl
 have f1_0_0 := F2.out.1.fz 0
 have a1_0_1 := F2.out.1.cell 1 _ rfl
 have f1_0_1 := F2.out.1.fz 1
 have a1_0_2 := F2.out.1.cell 2 _ rfl
 have f1_0_2 := F2.out.1.fz 2
 go_wp2_with fail
 all_goals first | (exfalso; omega) | skip
 refine (HI _).mono ?_
 rintro o3 w3 ⟨rfl, bb⟩
 have F3 : Hid (Bk w3 (w1.heap.size) [.string d1, .int .i64 d2, .bool false] ∧ Below w.heap.size w w3) := ⟨(F2.out.1).step bb, (F2.out.2).trans (bb.mono (F2.out.2).size)⟩
 clear F2
 clear bb
 clear l1_0 a1_0_0 f1_0_0 a1_0_1 f1_0_1 a1_0_2 f1_0_2
 have l2_0 := F3.out.1.lt
 have a2_0_0 := F3.out.1.cell 0 _ rfl
 have f2_0_0 := F3.out.1.fz 0
 have a2_0_1 := F3.out.1.cell 1 _ rfl
 have f2_0_1 := F3.out.1.fz 1
 have a2_0_2 := F3.out.1.cell 2 _ rfl
 have f2_0_2 := F3.out.1.fz 2
 go_wp2_with fail
 all_goals first | (exfalso; omega) | skip
 refine (HB _).mono ?_
 rintro o4 w4 ⟨rfl, bb⟩
 have F4 : Hid (Bk w4 (w1.heap.size) [.string d1, .int .i64 d2, .bool false] ∧ Below w.heap.size w w4) := ⟨(F3.out.1).step bb, (F3.out.2).trans (bb.mono (F3.out.2).size)⟩
 clear F3
 clear bb
 clear l2_0 a2_0_0 f2_0_0 a2_0_1 f2_0_1 a2_0_2 f2_0_2
 have l3_0 := F4.out.1.lt
 have a3_0_0 := F4.out.1.cell 0 _ rfl
 have f3_0_0 := F4.out.1.fz 0
 have a3_0_1 := F4.out.1.cell 1 _ rfl
 have f3_0_1 := F4.out.1.fz 1
 have a3_0_2 := F4.out.1.cell 2 _ rfl
 have f3_0_2 := F4.out.1.fz 2
 go_wp2_with fail
 all_goals first | (exfalso; omega) | skip
 refine (sure21 (gd.next F4.out.2)).mono ?_
 rintro o5 w5 ⟨rfl, bb⟩
 have F5 : Hid (Bk w5 (w1.heap.size) [.string d1, .int .i64 d2, .bool false] ∧ Below w.heap.size w w5) := ⟨(F4.out.1).step bb, (F4.out.2).trans (bb.mono (F4.out.2).size)⟩
 clear F4
 clear bb
 go_wp2
 go_ret
 exact ⟨rfl, F5.out.2⟩
theorem nine_in (z : Int) {N : Nat} (h : N ≤ (if z = 32 then 9 else 17)) : N ≤ 17 := by
 split at h <;> omega
theorem Du.short {s : ByteArray} {p : Int} {n : Nat} {s1 s2 : ByteArray} {p2 : Int} (D : Du s p n s1 s2 p2) (n0 : 1 ≤ n) : s1.size ≤ n ∧ s2.size ≤ n := by
 rcases D.way with ⟨c, e1, e2, e3⟩ | ⟨c, m, k, mz, m1, m2, m3, rfl, k1, k2, K⟩
 · rw [e1, e2]; exact ⟨c, c⟩
 · rw [pre_size (by omega)]
   refine ⟨m1, ?_⟩
   rcases K with ⟨_, rfl, _⟩ | ⟨k0, _, rfl, _⟩
   · exact n0
   · rw [upS_size k0 (by omega)]; exact k1
theorem law_quick_in (b : Nat) (hb : b < 18446744073709551616) (z : Int) (w : World) (gd : Gd w) :
 Calls Tryz.prog 4 #[.int .u64 (b : Int), .int .i64 z] w fun x w' => x = .returned (.bool true) ∧ Below w.heap.size w w' := by
 rcases kinds b z hb with ⟨n, h⟩ | ⟨f, T, L, S, I, h⟩
 · exact qi_err gd (fun W _ => q_bad h W)
 · by_cases m0 : mg S b = 0
   · exact qi_err gd (fun W _ => q_zero h m0 W)
   · obtain ⟨u, o, s, p, t, q, A, d1, d2, k⟩ := fl_ex h m0
     rcases k.qsure with ⟨N, d, _, n0, n1, hN, hm, H⟩ | ⟨H, no⟩
     · have n17 := nine_in z n1
       rcases k.pick (decide (b % 2 = 0)) n0 n17 with ⟨x, _⟩ | ⟨d', Z, e1, e2, e3, e4, e5⟩
       · rw [hN] at x; cases x
       · rw [hN] at e1
         cases e1
         obtain ⟨_, du, _, _⟩ := k.c N n0 n17
         have sz : d.1.size ≤ N := by
          rcases e5 with rfl | rfl
          · exact (du.short n0).1
          · exact (du.short n0).2
         have lp := lo_pos (f := f) (L := L) m0
         have zp : 0 < Z := by
          have y := k.hd (c := decide (b % 2 = 0)) e3
          rw [e4] at y
          have y' := hitB_iff.1 y.symm
          rcases y' with ⟨_, y', _⟩ | ⟨_, y', _⟩ <;> omega
         have s1 := e3.pos.2 zp
         have HI := fun W => in_is h k.d k.e e3.vd W
         have e4' : inB (decide (b % 2 = 0)) (lowF d.1 d.2 s p) (lowF d.1 d.2 t q) = true := e4
         rw [e4'] at HI
         have HB : 1 < d.1.size → ∀ W, Calls Tryz.prog 12 #[.int .u64 (b : Int), .int .i64 z, .int .i64 ((d.1.size : Int) - 1)] W fun e w' => e = .returned (.tuple #[.bool false, .nilIface]) ∧ Below W.heap.size W w' := by
          intro n2 W
          obtain ⟨c1, du', c3, c4⟩ := k.c (d.1.size - 1) (by omega) (by omega)
          have r := bt_is h k.d k.e (n := d.1.size - 1) (by omega) (by omega) k.g k.pos k.o1 du' c3 c4 W
          have no := hm (d.1.size - 1) (by omega) (by omega)
          rw [k.doc _ (by omega) (by omega)] at no
          have x1 : inB (decide (b % 2 = 0)) (lowF (d1 (d.1.size - 1)).1 o s p) (lowF (d1 (d.1.size - 1)).1 o t q) = hdB (decide (b % 2 = 0)) s p t q (d1 (d.1.size - 1)) := by unfold hdB; rw [c1]
          have x2 : inB (decide (b % 2 = 0)) (lowF (d2 (d.1.size - 1)).1 (d2 (d.1.size - 1)).2 s p) (lowF (d2 (d.1.size - 1)).1 (d2 (d.1.size - 1)).2 t q) = hdB (decide (b % 2 = 0)) s p t q (d2 (d.1.size - 1)) := rfl
          rw [x1, x2] at r
          have y1 : hdB (decide (b % 2 = 0)) s p t q (d1 (d.1.size - 1)) = false := by
           cases y : hdB (decide (b % 2 = 0)) s p t q (d1 (d.1.size - 1)) with
           | false => rfl
           | true => rw [y] at no; cases y' : hdB (decide (b % 2 = 0)) s p t q (d2 (d.1.size - 1)) <;> rw [y'] at no <;> cases no
          have y2 : hdB (decide (b % 2 = 0)) s p t q (d2 (d.1.size - 1)) = false := by
           cases y : hdB (decide (b % 2 = 0)) s p t q (d2 (d.1.size - 1)) with
           | false => rfl
           | true => rw [y, y1] at no; cases no
          rw [y1, y2, show ((d.1.size - 1 : Nat) : Int) = (d.1.size : Int) - 1 by omega] at r
          exact r
         by_cases z32 : z = 32
         · subst z32
           rw [if_pos rfl] at n1
           by_cases n2 : 1 < d.1.size
           · exact qi_32_1 gd (by omega) n2 H HI (HB n2)
           · exact qi_32_0 gd (by omega) H HI
         · have zb : (z == 32) = false := beq_eq_false_iff_ne.mpr z32
           by_cases n2 : 1 < d.1.size
           · exact qi_64_1 gd zb (by omega) n2 H HI (HB n2)
           · exact qi_64_0 gd zb (by omega) H HI
     · exact qi_not gd H
end Go.Proofs.YtbpfhnndlknloaaGreatDoor
