/-
  Holds: QkF QkZ QkR.
-/
import Derived.Test.YtbpfhnndlknloaaGreatDoorRows
import Derived.Laws.Externs
import Derived.WalkKit
import Derived.WalkSpells
import Derived.WalkLawsBesides
import Derived.Lib.Mul64
import Derived.Stop.Asserts
import Derived.RowKitTokens
import Derived.Lib.Strings
import Derived.Lib.BufferWrite
import Derived.Deep.OwnRows
import Derived.Deep.RegionHeld3
import Derived.BigQuiet
import Derived.Lib.ConvBytes
import Derived.Laws.CopyOwn
import Derived.Lib.TrailingZeros
import Derived.Lib.ItoaNum
import Derived.Deep.LoopGhost
import Derived.Deep.AppendLies
import Derived.Deep.DeepCutAuto
import Derived.Test.YtbpfhnndlknloaaGreatDoorShelf
import Derived.Test.YtbpfhnndlknloaaGreatDoorKg30
import Derived.Test.YtbpfhnndlknloaaGreatDoorKg31
import Derived.Test.YtbpfhnndlknloaaGreatDoorKg32
set_option maxRecDepth 100000
set_option maxHeartbeats 4000000
namespace Go.Proofs.YtbpfhnndlknloaaGreatDoor
open Go.Shelf Go.RowKit Go.Sort Go.Lib
theorem ufmt_in (u : Nat) (h0 : 1 ≤ u) (h64 : u < 18446744073709551616) (w : World) (hp : Pow w) :
 Calls Tryz.prog 77 #[.int .u64 u, .int .i64 10] w fun e w' => e = .returned (.string (tenT u)) ∧ ∃ k os, w' = grow (w.drewN k) os := by
 unfold tenT
 by_cases hs : u < 100
 · have SM := fun W => small_call u hs W
   go_enter Tryz.func77, Tryz.ntmps77
   go_wp2_with fail
   refine (SM _).mono ?_
   rintro e w' ⟨rfl, rfl⟩
   go_wp2
   go_ret
   exact ⟨rfl, 0, #[], by simp [World.drewN_zero]⟩
 · have hnd20 : Lib.nDigits u ≤ 20 := by have := Lib.numDigits_eq u h0 h64; split at this <;> omega
   have hb3 : Lib.nDigits u ≤ 24 := by omega
   have hal : Tryz.prog.arrayLen 191 = 24 := by simp [Program.arrayLen, Tryz.underlying191]
   have hsl : ∀ W, (Instr.sliceAt 191 (.pointer (some ⟨w.heap.size, 0, none⟩)) none (some (.int .i64 (Lib.nDigits u : Int))) none).run Tryz.prog W = .ok (.slice (some ⟨w.heap.size, 0, none⟩) (Lib.nDigits u) 24) W := fun W => by
    rw [run_sliceAt_array_h W 191 ⟨w.heap.size, 0, none⟩ (by simp [Program.arrayLen, Program.elem, Tryz.underlying191]) .i64 (Lib.nDigits u : Int) (by omega) (by rw [hal]; omega)]
    go_simp
   have hH0 : Holds (fun (b : UInt8) => Value.int .u8 (b.toNat : Int)) (w.alloc (.cells Lib.zeros24 191)) w.heap.size 0 (Array.replicate (Lib.nDigits u) (0 : UInt8)) := fun j hj => by
    have hj' : j < Lib.nDigits u := by simpa using hj
    refine ⟨?_, World.frozen?_alloc_new _ _ _ _⟩
    rw [World.cell?_alloc_new, Lib.zeros24_at _ (by omega), getElem!_pos _ j hj]
    simp
   have hfmt := base10_call w.heap.size 0 24 u (Array.replicate (Lib.nDigits u) 0) (w.alloc (.cells Lib.zeros24 191)) hH0 (by rw [Array.size_replicate]; exact Lib.lt_pow_nDigits u) h64 (by rw [Array.size_replicate]; omega)
   rw [Array.size_replicate] at hfmt
   have hnd := numDigits_call u h0 h64 _ (Lib.tabIs_alloc hp (.cells Lib.zeros24 191))
   have HH0 := Lib.hid hH0
   clear hH0 hal
   go_enter Tryz.func77, Tryz.ntmps77
   go_wp2_with fail
   refine hnd.mono ?_
   rintro e w' ⟨rfl, rfl⟩
   go_wp2_with fail
   refine hfmt.mono ?_
   rintro e w' ⟨rfl, k, v', dk, rfl, hF⟩
   have hcv : (convert 172 9 (.slice (some ⟨w.heap.size, 0, none⟩) (Lib.nDigits u) 24)).run Tryz.prog ((putRow (fun (b : UInt8) => Value.int .u8 (b.toNat : Int)) (w.alloc (.cells Lib.zeros24 191)) w.heap.size 0 dk).drewN k) = .ok (.string ⟨(Lib.decDigits u).toArray⟩) ((putRow (fun (b : UInt8) => Value.int .u8 (b.toNat : Int)) (w.alloc (.cells Lib.zeros24 191)) w.heap.size 0 dk).drewN k) := by
    have h := run_convert_bytes_back (P := Tryz.prog) ((putRow (fun (b : UInt8) => Value.int .u8 (b.toNat : Int)) (w.alloc (.cells Lib.zeros24 191)) w.heap.size 0 dk).drewN k) 172 9 5 ⟨w.heap.size, 0, none⟩ 24 (Lib.decDigits u) Tryz.underlying172 Tryz.underlying5 Tryz.underlying9 (fun j hj => by
     rw [Lib.row_is_numeral hF j hj, Lib.add_plain, World.cell?_drewN]
     exact cell?_putRow (fun (b : UInt8) => Value.int .u8 (b.toNat : Int)) _ w.heap.size 0 _ dk HH0.out (by rw [hF.size, Array.size_replicate]) j (by rw [hF.size]; rw [Lib.decDigits_length] at hj; exact hj))
    rw [Lib.decDigits_length] at h
    exact h
   go_wp2
   go_ret
   refine ⟨rfl, k, ?_⟩
   rw [alloc_eq_grow]
   obtain ⟨os', _, e⟩ := putRow_grow_new (fun (b : UInt8) => Value.int .u8 (b.toNat : Int)) w #[.cells Lib.zeros24 191] w.heap.size 0 dk (Nat.le_refl _)
   exact ⟨os', by rw [e]; rfl⟩
theorem ufmt_call (u : Nat) (h0 : 1 ≤ u) (h64 : u < 18446744073709551616) (w : World) (hp : Pow w) :
 Calls Tryz.prog 36 #[.int .u64 u, .int .i64 10] w fun e w' => e = .returned (.string (tenT u)) ∧ ∃ k os, w' = grow (w.drewN k) os := by
 have F := ufmt_in u h0 h64 w hp
 go_enter Tryz.func36, Tryz.ntmps36
 go_wp2_with fail
 refine F.mono ?_
 rintro e w' ⟨rfl, k, os, rfl⟩
 go_wp2
 go_ret
 exact ⟨rfl, k, os, rfl⟩
end Go.Proofs.YtbpfhnndlknloaaGreatDoor
namespace Go.Proofs.YtbpfhnndlknloaaGreatDoor
open Go.RowKit
theorem near_is {a m v s : Nat} {e : Bool} (s0 : 0 < s) (s1 : s < 9223372036854775808) (hv : v < 9223372036854775808) (W : World) :
    Calls Tryz.prog 37 #[.agg #[.int .u64 (a : Int), .int .u64 (m : Int), .int .u64 (v : Int), .bool e], .int .u64 (s : Int)] W fun x w' => x = .returned (.int .u64 ((nrQ v e a s : Nat) : Int)) ∧ Below W.heap.size W w' := by
  have dm := Nat.div_add_mod v s
  have ml := Nat.mod_lt v s0
  have tl := Nat.div_le_self v s
  have q1 : IntKind.u64.wrap ((v : Int) / (s : Int)) = ((v / s : Nat) : Int) := by
    rw [IntKind.wrap_u64, ← Int.natCast_ediv]
    generalize v / s = t at *
    omega
  rw [Nat.mul_comm] at dm
  have q2 : IntKind.u64.wrap (((v / s : Nat) : Int) * (s : Int)) = ((v / s * s : Nat) : Int) := by
    rw [IntKind.wrap_u64, ← Int.natCast_mul]
    generalize v / s * s = t at *
    omega
  have q3 : IntKind.u64.wrap ((v : Int) - ((v / s * s : Nat) : Int)) = ((v % s : Nat) : Int) := by
    rw [IntKind.wrap_u64]
    generalize v / s * s = t at *
    generalize v % s = r at *
    omega
  have q4 : IntKind.u64.wrap ((s : Int) / 2) = ((s / 2 : Nat) : Int) := by rw [IntKind.wrap_u64]; omega
  have q5 : IntKind.u64.wrap (((v / s : Nat) : Int) + 1) = ((v / s + 1 : Nat) : Int) := by
    rw [IntKind.wrap_u64]
    generalize v / s = t at *
    omega
  have q6 : IntKind.u64.wrap (((v / s + 1 : Nat) : Int) * (s : Int)) = (((v / s + 1) * s : Nat) : Int) := by
    rw [IntKind.wrap_u64, ← Int.natCast_mul, Nat.add_mul, Nat.one_mul]
    generalize v / s * s = t at *
    omega
  have q7 : IntKind.u64.wrap (((v / s + 1 : Nat) : Int) + 1) = ((v / s + 1 + 1 : Nat) : Int) := by
    rw [IntKind.wrap_u64]
    generalize v / s = t at *
    omega
  unfold nrQ tmQ
  cases u : upQ v e s with
  | true =>
    refine nr_up s0 q1 q2 q3 q4 q5 q6 q7 ?_ W
    unfold upQ at u
    simp only [Bool.or_eq_true, Bool.and_eq_true, decide_eq_true_eq] at u
    show _ ∨ _
    rcases u with u | ⟨u1, u2⟩
    · exact Or.inl u
    · refine Or.inr ⟨by omega, u1, ?_⟩
      rcases u2 with u2 | u2
      · exact Or.inl u2
      · cases e
        · exact Or.inr ⟨rfl, u2⟩
        · exact Or.inl rfl
  | false =>
    refine nr_dn s0 q1 q2 q3 q4 q5 ?_ W
    unfold upQ at u
    simp only [Bool.or_eq_false_iff, Bool.and_eq_false_iff, decide_eq_false_iff_not] at u
    show _ ∨ _
    obtain ⟨u0, u1⟩ := u
    by_cases c : v % s = s / 2
    · rcases u1 with u1 | u1
      · exact absurd c u1
      · exact Or.inr ⟨u0, c, u1.1, u1.2⟩
    · exact Or.inl ⟨u0, c⟩
theorem step_ex {a m : Nat} (a0 : 0 < a) (hm : m < 9223372036854775808) : ∃ k, k ≤ 18 ∧ (∀ j, j < k → decide (a ≤ m / 10 ^ (j + 1) * 10 ^ (j + 1)) = true) ∧ decide (a ≤ m / 10 ^ (k + 1) * 10 ^ (k + 1)) = false := by
 rcases first_of (fun j => !decide (a ≤ m / 10 ^ (j + 1) * 10 ^ (j + 1))) 0 19 with ⟨n, _, h2, h3, h4⟩ | h
 · refine ⟨n, by omega, fun j hj => ?_, ?_⟩
   · have := h4 j (Nat.zero_le _) hj
     simpa using this
   · simpa using h3
 · exfalso
   have q := h 18 (by omega) (by omega)
   have z : m / 10 ^ (18 + 1) = 0 := Nat.div_eq_of_lt (by omega)
   simp only [z, Nat.zero_mul] at q
   simp at q
   omega
theorem pw_ex (x : Int) : ∃ M E, Pw x M E := by
 rcases Int.lt_or_le x 0 with c | c
 · obtain ⟨n, rfl⟩ : ∃ n : Nat, x = -(n : Int) := ⟨(-x).toNat, by omega⟩
   exact ⟨_, _, (fraction_pw (n := n) (by omega) rfl).2⟩
 · obtain ⟨n, rfl⟩ : ∃ n : Nat, x = (n : Int) := ⟨x.toNat, by omega⟩
   obtain ⟨_, _, _, _, h, _⟩ := whole_pw (n := n) rfl rfl rfl
   exact ⟨_, _, h⟩
theorem of_fix {x : Int} {M : Nat} {E : Int} (h : Pw x M E) (h1 : -400 ≤ x) (h2 : x ≤ 400) (W : World) (hT : Tab W) :
 Calls Tryz.prog 33 #[.int .i64 x] W fun e w' => e = .returned (.tuple #[.agg #[.int .u64 (hiW M), .int .u64 (loW M), .int .i64 E, .bool (decide (0 ≤ x ∧ x ≤ 55))], .nilIface]) ∧ Below W.heap.size W w' := by
 refine (of_yes x h1 h2 W hT).mono ?_
 rintro e w' ⟨M', E', rfl, pw, bb⟩
 obtain ⟨rfl, rfl⟩ := pw_uniq21 h pw
 exact ⟨rfl, bb⟩
def plQ (e : Int) : Int := e * 1292913986 / 4294967296 + 1 - 3
theorem digits_is {e : Int} (h1 : -1074 ≤ e) (h2 : e ≤ 971) (W : World) : Calls Tryz.prog 32 #[.int .i64 e] W fun x w' => x = .returned (.tuple #[.int .i64 (e * 1292913986 / 4294967296 + 1), .nilIface]) ∧ Below W.heap.size W w' := by
 refine (digits_call e W).mono ?_
 rintro x w' ⟨rfl, rfl⟩
 have c : ¬ (e < -1100 ∨ 1100 < e) := by omega
 refine ⟨?_, Below.refl _ _⟩
 unfold lgD lgE
 rw [if_neg c, if_neg c]
 rfl
def fthQ (e : Int) : Nat := 2 ^ (e - 2 + (R0 : Int)).toNat * 5 ^ R0
def unQ (e : Int) : Nat := 10 ^ (plQ e + (R0 : Int)).toNat
theorem scale_is {e : Int} (h1 : -1074 ≤ e) (h2 : e ≤ 971) : ∃ M X d, M < 2 ^ 128 ∧ Sc e (plQ e) M X (fthQ e) (unQ e) d ∧
 ∀ W, Tab W → Calls Tryz.prog 14 #[.int .i64 e] W fun x w' => x = .returned (scV M X (decide (0 ≤ -plQ e ∧ -plQ e ≤ 55)) (plQ e) (d : Int)) ∧ Below W.heap.size W w' := by
 have p1 : -400 ≤ plQ e ∧ plQ e ≤ 400 := by unfold plQ; omega
 obtain ⟨M, X, h⟩ := pw_ex (-plQ e)
 have t := td_log e (by omega) (by omega)
 have t' : Td e (plQ e + 3) := by
  have : plQ e + 3 = e * 1292913986 / 4294967296 + 1 := by unfold plQ; omega
  rw [this]; exact t
 have r0 : (R0 : Int) = 1100 := rfl
 obtain ⟨d, sc⟩ := sc_of (r := R0) h t' (by omega) (by omega)
 refine ⟨M, X, d, h.2.1, sc, fun W hT => ?_⟩
 have k1 := sc.dr
 have k2 := sc.d1
 have k3 := sc.d2
 have q := so_ok (w := W) (e0 := e) (l := e * 1292913986 / 4294967296 + 1) (X := X) hT (by omega) (by omega) (by omega) (by omega) (by omega) (by omega) (fun W => digits_is h1 h2 W) (fun W hT => of_fix h (by omega) (by omega) W hT)
 rw [← k1] at q
 exact q
def gpQ (f : Nat) (L : Int) (k : Nat) : Nat := if xp f L k < xp f L (k + 1) then 1 else 2
theorem gap_is {z : Int} {f T : Nat} {L : Int} {S I b : Nat} (h : Fn z f T L S I b) {k : Nat} (hk : mg S b = k + 1) (W : World) :
 Calls Tryz.prog 16 #[.int .u64 (b : Int), .int .i64 z, .int .i64 (xp f L (k + 1))] W fun x w' => x = .returned (.int .u64 ((gpQ f L k : Nat) : Int)) ∧ Below W.heap.size W w' := by
 obtain ⟨g, e⟩ := Fn.prev h (by omega)
 have ek : mg S (b - 1) = k := by omega
 have q := gb_ok (b := (b : Int)) (b1 := ((b - 1 : Nat) : Int)) (z := z) (e0 := xp f L (k + 1)) (fun W => prev_is h (by omega) W) (fun W => unp_any g.sf g.lt W) W
 rw [ek] at q
 have ee : (if uE I f L k < xp f L (k + 1) then (1 : Int) else 2) = ((gpQ f L k : Nat) : Int) := by
  have gf := g.fin
  rw [ek] at gf
  unfold gpQ uE
  rcases Nat.eq_zero_or_pos k with z | z
  · subst z
    obtain ⟨x1, x0, _⟩ := xp_one h.sf.fs.1.one L
    rw [cl_zero, if_neg (show ¬ (1 : Int) = 2 by decide), x1, x0]
    have : ¬ (0 : Int) < L := by rcases h.sf.fs.1 with ⟨_, _, rfl⟩ | ⟨_, _, rfl⟩ <;> omega
    rw [if_neg this, if_neg (by omega)]
    rfl
  · rw [cl_fine (by omega) gf, if_pos rfl]
    by_cases c : xp f L k < xp f L (k + 1)
    · rw [if_pos c, if_pos c]; rfl
    · rw [if_neg c, if_neg c]; rfl
 rw [ee] at q
 exact q
theorem fourths {f T : Nat} {L : Int} (fs : Fs f T L) {k : Nat} (hm : k + 1 < T * 2 ^ f) :
 vlF f L (k + 1) = 4 * mt f (k + 1) * fthQ (xp f L (k + 1)) ∧ hiF f L (k + 1) = (4 * mt f (k + 1) + 2) * fthQ (xp f L (k + 1)) ∧ loF f L (k + 1) = (4 * mt f (k + 1) - gpQ f L k) * fthQ (xp f L (k + 1)) := by
 have x := xp_in fs hm
 have xk := xp_in fs (show k < T * 2 ^ f by omega)
 have mp := mt_some (f := f) (m := k + 1) (by omega)
 have r0 : (R0 : Int) = 1100 := rfl
 have e1 : fv 1 (xp f L (k + 1) - 2) = fthQ (xp f L (k + 1)) := by unfold fv fthQ; rw [Nat.one_mul]
 have e2 : gF f L (k + 1) = 2 * fthQ (xp f L (k + 1)) := by
  unfold gF
  rw [fv_two (by omega), fv_mul, show xp f L (k + 1) - 1 - 1 = xp f L (k + 1) - 2 by omega, e1]
 have v := vl_g fs hm
 have hh := hi_g fs hm
 have ll := lo_g fs hm
 rw [e2] at v hh
 have v4 : vlF f L (k + 1) = 4 * mt f (k + 1) * fthQ (xp f L (k + 1)) := by
  rw [v]
  generalize fthQ (xp f L (k + 1)) = g
  generalize mt f (k + 1) = m
  rw [Nat.mul_left_comm, Nat.mul_assoc 2 m g, ← Nat.mul_assoc 2 2, Nat.mul_assoc 4 m g]
 refine ⟨v4, ?_, ?_⟩
 · rw [hh, v4, Nat.add_mul]
 · have gk : gF f L k = gpQ f L k * fthQ (xp f L (k + 1)) := by
    have mo := xp_mono f L k
    unfold gF gpQ
    by_cases c : xp f L k < xp f L (k + 1)
    · rw [if_pos c, Nat.one_mul, ← e1, show xp f L k - 1 = xp f L (k + 1) - 2 by omega]
    · rw [if_neg c, show xp f L k = xp f L (k + 1) by omega]
      unfold gF at e2
      exact e2
   rw [gk, v4] at ll
   generalize fthQ (xp f L (k + 1)) = gg at *
   generalize loF f L (k + 1) = lo at *
   have g2 : gpQ f L k ≤ 2 := by unfold gpQ; split <;> omega
   rw [Nat.sub_mul]
   omega
structure Gd (W : World) : Prop where
 tab : Tab W
 pow : ∀ w', Below W.heap.size W w' → Pow w'
theorem Gd.next {W W' : World} (h : Gd W) (hb : Below W.heap.size W W') : Gd W' := ⟨h.tab.next hb, fun w' hw => h.pow w' (hb.trans (hw.mono hb.size))⟩
theorem below_growQ (w : World) (k : Nat) (os : Array Obj) : Below w.heap.size w (Sort.grow (w.drewN k) os) :=
 ⟨rfl, rfl, rfl, by simp [Sort.grow, World.drewN], fun i hi => by
  show (w.heap ++ os)[i]? = w.heap[i]?
  exact Array.getElem?_append_left hi⟩
theorem ufmt_is {n : Nat} (h0 : 1 ≤ n) (h1 : n < 18446744073709551616) (W : World) (hp : Pow W) : Calls Tryz.prog 36 #[.int .u64 (n : Int), .int .i64 10] W fun e w' => e = .returned (.string (tenT n)) ∧ Below W.heap.size W w' := by
 refine (ufmt_call n h0 h1 W hp).mono ?_
 rintro e w' ⟨rfl, k, os, rfl⟩
 exact ⟨rfl, below_growQ _ _ _⟩
theorem td_pl {e : Int} (h1 : -1074 ≤ e) (h2 : e ≤ 971) : Td e (plQ e + 3) := by
 have t := td_log e (by omega) (by omega)
 have : plQ e + 3 = e * 1292913986 / 4294967296 + 1 := by unfold plQ; omega
 rw [this]; exact t
theorem five_fth {e : Int} {F : Nat} (h0 : 0 ≤ plQ e) (hp : plQ e ≤ e - 2) (hF : F % 5 ^ (plQ e).toNat = 0) : F * fthQ e % unQ e = 0 := by
 unfold fthQ unQ
 exact five_units h0 hp hF
theorem un_is (e : Int) : unQ e = 10 ^ (plQ e + (R0 : Int)).toNat := by unfold unQ; rfl
theorem par_mt {f : Nat} (hf : 1 ≤ f) (m : Nat) : mt f m % 2 = m % 2 := by
 have e : 2 ^ f = 2 * 2 ^ (f - 1) := by rw [← Nat.pow_succ']; congr 1; omega
 have d : 2 ∣ 2 ^ f := ⟨_, e⟩
 unfold mt
 split
 · rfl
 · rw [Nat.add_mod, Nat.mod_mod_of_dvd m d, e, Nat.mul_mod_right, Nat.add_zero, Nat.mod_mod]
theorem par_mg {z : Int} {f T : Nat} {L : Int} {S I : Nat} (h : Sf z f T L S I) (b : Nat) : mg S b % 2 = b % 2 := by
 obtain ⟨_, _, _, _, s2, _, _⟩ := h.fs
 unfold mg
 exact Nat.mod_mod_of_dvd b (Nat.dvd_of_mod_eq_zero s2)
theorem fine_cells {z : Int} {f T : Nat} {L : Int} {S I b : Nat} (h : Fn z f T L S I b) (m0 : mg S b ≠ 0) (W : World) :
 Calls Tryz.prog 13 #[.int .u64 (b : Int), .int .i64 z] W fun e w' => e = .returned (.tuple #[.agg #[.bool (uN S I b), .int .i64 2, .int .u64 ((mt f (mg S b) : Nat) : Int), .int .i64 (xp f L (mg S b))], .nilIface]) ∧ Below W.heap.size W w' := by
 have U := unp_any h.sf h.lt W
 have c2 : cl I (mg S b) = 2 := cl_fine m0 h.fin
 have e1 : uM I f (mg S b) = mt f (mg S b) := if_pos c2
 have e2 : uE I f L (mg S b) = xp f L (mg S b) := if_pos c2
 rw [e1, e2, c2] at U
 exact U
theorem le_bif {c : Bool} {lo D : Nat} : (bif decide (lo % D ≠ 0) || !c then lo / D + 1 else lo / D) = leU c lo D := by
 unfold leU
 by_cases z : lo % D ≠ 0
 · rw [decide_eq_true z, if_pos (Or.inl z)]; rfl
 · rw [decide_eq_false z]
   cases c
   · rw [if_pos (Or.inr rfl)]; rfl
   · rw [if_neg (fun q => by rcases q with q | q; exact z q; cases q)]; rfl
theorem mo_bif {c : Bool} {hi D : Nat} : (bif !decide (hi % D ≠ 0) && !c then hi / D - 1 else hi / D) = moU c hi D := by
 unfold moU
 by_cases z : hi % D = 0
 · rw [decide_eq_false (fun q => q z)]
   cases c
   · rw [if_pos ⟨z, rfl⟩]; rfl
   · rw [if_neg (fun q => by cases q.2)]; rfl
 · rw [decide_eq_true z, if_neg (fun q => z q.1)]; rfl
theorem any_ten {c : Bool} {lo X hi D g : Nat} (h : Rm lo X hi) (D0 : 0 < D) (lg : lo + g ≤ X) (gd : 25 * D ≤ g) : anyB c lo hi X (10 * D) = true := by
 unfold anyB
 rw [Bool.or_eq_true]
 left
 have P : 0 < 10 * D := by omega
 have a := @dn_mod X (10 * D)
 have b := Nat.mod_lt X P
 have ab := h.above
 rw [hitB_iff]
 cases c
 · exact Or.inr ⟨rfl, by omega, by omega⟩
 · exact Or.inl ⟨rfl, by omega, by omega⟩
theorem Fl.qsure {z : Int} {f T : Nat} {L : Int} {S I b : Nat} {u : ByteArray} {o : Int} {s : ByteArray} {p : Int} {t : ByteArray} {q : Int} {A : Nat} {d1 d2 : Nat → Dp} (h : Fl z f T L S I b u o s p t q A d1 d2) :
    (∃ N d, firstF (fD (decide (b % 2 = 0)) s p t q u d1 d2) 1 17 = some d ∧ 1 ≤ N ∧ N ≤ (if z = 32 then 9 else 17) ∧ fD (decide (b % 2 = 0)) s p t q u d1 d2 N = some d ∧ (∀ m, 1 ≤ m → m < N → fD (decide (b % 2 = 0)) s p t q u d1 d2 m = none) ∧
      ∀ W, Gd W → Calls Tryz.prog 5 #[.int .u64 (b : Int), .int .i64 z] W fun x w' => x = .returned (.tuple #[dcV d.1 d.2 false, .bool true, .nilIface]) ∧ Below W.heap.size W w') ∨
    ((∀ W, Gd W → Calls Tryz.prog 5 #[.int .u64 (b : Int), .int .i64 z] W fun x w' => x = .returned (.tuple #[dcV ⟨#[]⟩ 0 false, .bool false, .nilIface]) ∧ Below W.heap.size W w') ∧
      ¬ (0 ≤ -plQ (xp f L (mg S b)) ∧ -plQ (xp f L (mg S b)) ≤ 55)) := by
  obtain ⟨k, hk⟩ : ∃ k, mg S b = k + 1 := ⟨mg S b - 1, by have := h.m0; omega⟩
  have fs := h.fn.sf.fs.1
  have hm := h.fn.m
  have U := fun W => fine_cells h.fn h.m0 W
  have G := fun W => gap_is h.fn hk W
  have rm := h.rm
  have pm := par_mt fs.one (mg S b)
  rw [par_mg h.fn.sf b] at pm
  have QK := fun j => h.quick (decide (b % 2 = 0)) (j := j)
  have m53 := mt_lt fs (mg S b)
  have mp := mt_some (f := f) h.m0
  rw [hk] at hm U rm pm QK m53 mp ⊢
  have x := xp_in fs hm
  have tp := td_pl x.1 x.2
  obtain ⟨fV, fH, fL⟩ := fourths fs hm
  obtain ⟨M, X, d, M128, sc, SCL⟩ := scale_is x.1 x.2
  have F5 : ∀ F, 0 ≤ plQ (xp f L (k + 1)) → F % 5 ^ (plQ (xp f L (k + 1))).toNat = 0 → F * fthQ (xp f L (k + 1)) % unQ (xp f L (k + 1)) = 0 := fun F h0 hF => five_fth h0 (td_room tp h0) hF
  have pb : -400 ≤ plQ (xp f L (k + 1)) ∧ plQ (xp f L (k + 1)) ≤ 400 := by unfold plQ; omega
  have gp : 1 ≤ gpQ f L k ∧ gpQ f L k ≤ 2 := by unfold gpQ; split <;> omega
  have uD := un_is (xp f L (k + 1))
  generalize xp f L (k + 1) = e at *
  generalize gpQ f L k = gq at *
  generalize mt f (k + 1) = m at *
  generalize fthQ e = g at *
  generalize unQ e = D at *
  generalize plQ e = pl at *
  obtain ⟨u1, m1, s1, C1, S1, E1⟩ := qcount_is (F := 4 * m - gq) sc M128 (by omega) (by omega) (F5 _)
  obtain ⟨u2, m2, s2, C2, S2, E2⟩ := qcount_is (F := 4 * m) sc M128 (by omega) (by omega) (F5 _)
  obtain ⟨u3, m3, s3, C3, S3, E3⟩ := qcount_is (F := 4 * m + 2) sc M128 (by omega) (by omega) (F5 _)
  have a1 : ((4 * m - gq : Nat) : Int) = 4 * (m : Int) - (gq : Int) := by omega
  have a2 : ((4 * m : Nat) : Int) = 4 * (m : Int) := by omega
  have a3 : ((4 * m + 2 : Nat) : Int) = 4 * (m : Int) + 2 := by omega
  rw [a1] at C1
  rw [a2] at C2
  rw [a3] at C3
  unfold scV at C1 C2 C3 SCL
  rw [← fL] at S1
  rw [← fV] at S2
  rw [← fH] at S3
  obtain ⟨_, _, _, _, _, _, w1, w2, D0⟩ := sc
  by_cases hs : s1 = true ∧ s2 = true ∧ s3 = true
  · left
    obtain ⟨rfl, rfl, rfl⟩ := hs
    obtain ⟨v1, n1⟩ := S1 rfl
    obtain ⟨v2, n2⟩ := S2 rfl
    obtain ⟨v3, n3⟩ := S3 rfl
    clear S1 S2 S3 E1 E2 E3 F5
    have below := rm.below
    have above := rm.above
    have lg : loF f L (k + 1) + g ≤ vlF f L (k + 1) := by
      rw [fL, fV]
      have : (4 * m - gq) * g + gq * g = 4 * m * g := by rw [← Nat.add_mul, show 4 * m - gq + gq = 4 * m by omega]
      have := Nat.le_mul_of_pos_left g gp.1
      omega
    have hi63 : hiF f L (k + 1) / D < 9223372036854775808 := by
      rw [Nat.div_lt_iff_lt_mul D0, fH]
      have a : (4 * m + 2) * g ≤ 36028797018963970 * g := Nat.mul_le_mul_right g (by omega)
      omega
    have lo63 : loF f L (k + 1) / D < 9223372036854775808 := Nat.lt_of_le_of_lt (Nat.div_le_div_right (by omega)) hi63
    have vl63 : vlF f L (k + 1) / D < 9223372036854775808 := Nat.lt_of_le_of_lt (Nat.div_le_div_right (by omega)) hi63
    have hi1 : 1 ≤ hiF f L (k + 1) / D := by
      rw [Nat.le_div_iff_mul_le D0, fH, Nat.one_mul]
      have := Nat.mul_le_mul_right g (show 2 ≤ 4 * m + 2 by omega)
      omega
    have lp : 0 < loF f L (k + 1) := lo_pos (by omega)
    have hcl : ((m : Int) % 2 == 0) = decide (b % 2 = 0) := by
      rw [Bool.eq_iff_iff]
      simp only [beq_iff_eq, decide_eq_true_eq]
      omega
    have SPN := fun W (hT : Tab W) => qsp_ok (w := W) (ng := uN S I b) (k := 2) (xe := e) hT mp (by omega) gp.1 gp.2 hcl (by rw [v1]; exact lo63) (by rw [v3]; exact hi63) (by rw [v3]; exact hi1) C1 C2 C3
    rw [n1, n2, n3, v1, v2, v3, le_bif, mo_bif] at SPN
    clear C1 C2 C3 n1 n2 n3 v1 v2 v3
    have H := fun S S0 => holds_any (c := decide (b % 2 = 0)) (S := S) rm D0 S0
    have NP := fun S S0 ev a => near_pick (c := decide (b % 2 = 0)) (S := S) rm D0 S0 ev a
    have A10 := any_ten (c := decide (b % 2 = 0)) rm D0 lg w1
    have HU := fun Z => hit_units (c := decide (b % 2 = 0)) (lo := loF f L (k + 1)) (hi := hiF f L (k + 1)) (Z := Z) D0 (by omega)
    have AO := fun S0 Z hz gz => any_of (c := decide (b % 2 = 0)) (S := 10 ^ S0) (Z := Z) rm (ten_pos S0) hz gz
    clear fV fH fL rm lg
    generalize loF f L (k + 1) = lo at *
    generalize hiF f L (k + 1) = hi at *
    generalize vlF f L (k + 1) = V at *
    generalize hc : decide (b % 2 = 0) = c at *
    have le0 : 0 < leU c lo D := by
      apply Nat.pos_of_ne_zero
      intro z0
      have y := (HU 0).2 ⟨by omega, Nat.zero_le _⟩
      rw [hitB_iff] at y
      rcases y with ⟨_, y, _⟩ | ⟨_, y, _⟩ <;> omega
    have mo63 : moU c hi D < 9223372036854775808 := by
      unfold moU
      split <;> omega
    obtain ⟨k0, k18, hold, stop⟩ := step_ex (a := leU c lo D) (m := moU c hi D) le0 mo63
    have k1 : 1 ≤ k0 := by
      apply Nat.pos_of_ne_zero
      intro z0
      subst z0
      rw [show (10 : Nat) ^ (0 + 1) = 10 from rfl, H 10 (by decide), A10] at stop
      cases stop
    have yes := hold (k0 - 1) (by omega)
    rw [show k0 - 1 + 1 = k0 by omega] at yes
    have S0 : 0 < 10 ^ k0 := ten_pos k0
    have ev : 10 ^ k0 % 2 = 0 := by
      rw [show k0 = (k0 - 1) + 1 by omega, Nat.pow_succ]
      omega
    have S18 : 10 ^ k0 ≤ 10 ^ 18 := Nat.pow_le_pow_right (by decide) k18
    have S63 : 10 ^ k0 < 9223372036854775808 := by
      have : (10 : Nat) ^ 18 < 9223372036854775808 := by decide
      omega
    have STP := fun W => step_ok (a := leU c lo D) (m := moU c hi D) (v := V / D) (e := decide (V % D ≠ 0)) (R := 10 ^ k0) (show Hid _ from (by omega : moU c hi D < 18446744073709551616)) k18 rfl hold stop W
    rw [H _ S0] at yes
    rw [H _ (ten_pos (k0 + 1))] at stop
    obtain ⟨pk, ph⟩ := NP _ S0 ev yes
    have NEA := fun W => near_is (a := leU c lo D) (m := moU c hi D) (v := V / D) (s := 10 ^ k0) (e := decide (V % D ≠ 0)) S0 S63 vl63 W
    generalize nrQ (V / D) (decide (V % D ≠ 0)) (leU c lo D) (10 ^ k0) = n at *
    have eD : 10 ^ k0 * D = 10 ^ (k0 + (pl + (R0 : Int)).toNat) := by rw [uD, ← Nat.pow_add]
    have eD1 : 10 ^ (k0 + 1) * D = 10 ^ (k0 + (pl + (R0 : Int)).toNat + 1) := by rw [uD, ← Nat.pow_add, show k0 + 1 + (pl + (R0 : Int)).toNat = k0 + (pl + (R0 : Int)).toNat + 1 by omega]
    have nh := (HU (n * 10 ^ k0)).1 (by rw [Nat.mul_assoc]; exact ph)
    rw [eD] at yes pk ph
    rw [eD1] at stop
    obtain ⟨N, dd, Z, q1, q2, q3, q4, q5, q6, q7⟩ := QK _ yes stop
    rw [pk] at q6
    have q6' := Option.some.inj q6
    subst q6'
    have n0 : 1 ≤ n := by
      apply Nat.pos_of_ne_zero
      intro z0
      rw [z0, Nat.zero_mul] at nh
      omega
    have n63 : n < 9223372036854775808 := by
      have := Nat.le_mul_of_pos_right n S0
      omega
    have n10 : n % 10 ≠ 0 := by
      intro z0
      obtain ⟨y, hy⟩ : ∃ y, n = y * 10 := ⟨n / 10, by omega⟩
      have a := AO (k0 + (pl + (R0 : Int)).toNat + 1) _ ph (by rw [hy, Nat.pow_succ, Nat.mul_assoc, Nat.mul_comm 10, Nat.mul_mod_left])
      rw [a] at stop
      cases stop
    have r0 : (R0 : Int) = 1100 := rfl
    have dx := ten_dx (n := n) (j := (k0 : Int) + pl) n10 (Nat.lt_of_lt_of_le n63 (by decide)) (by omega) (by omega)
    rw [show ((k0 : Int) + pl + (R0 : Int)).toNat = k0 + (pl + (R0 : Int)).toNat by omega] at dx
    obtain ⟨y1, y2⟩ := Dx.uniq dx q7
    have sz := ten_size n
    have s20 := ten_short (n := n) (m := 20) (Nat.lt_of_lt_of_le n63 (by decide)) (by decide)
    refine ⟨N, dd, q1, q2, q3, q4, q5, fun W gd => ?_⟩
    have SHT := fun W (hT : Tab W) hP => qsh_ok (w := W) (j := k0) (n := n) (R := 10 ^ k0) (tx := tenT n) hT hP (by omega) (by omega) (by omega) (by omega) SPN STP NEA (fun W hp => ufmt_is n0 (by omega) W hp)
    rw [sz, show ((Lib.nDigits n : Nat) : Int) + (k0 : Int) + pl = (Lib.nDigits n : Int) + ((k0 : Int) + pl) by omega, y1, y2] at SHT
    exact qst_ok gd.tab gd.pow U SCL G SHT
  · right
    have hs' : Hid (s1 = false ∨ (s1 = true ∧ (s2 = false ∨ (s2 = true ∧ s3 = false)))) := by
      show _ ∨ _
      cases s1 <;> cases s2 <;> cases s3 <;> simp_all
    refine ⟨fun W gd => ?_, ?_⟩
    · have SPN := fun W (hT : Tab W) => qsp_no (w := W) (ng := uN S I b) (k := 2) (xe := e) hT mp (by omega) gp.1 gp.2 hs' C1 C2 C3
      have SHT := fun W (hT : Tab W) (_ : ∀ w', Below W.heap.size W w' → Pow w') => qsh_no (w := W) (a := 0) (mo := 0) (v := 0) (mr := false) hT SPN
      exact qst_ok gd.tab gd.pow U SCL G SHT
    · rcases hs' with y | ⟨_, y | ⟨_, y⟩⟩
      · exact E1 y
      · exact E2 y
      · exact E3 y
end Go.Proofs.YtbpfhnndlknloaaGreatDoor
