/-
  Holds: VPwV VPwD VPwP.
-/
import Derived.Test.YtohhmobfmmeohaaGreatDoorRows
import Derived.Laws.Externs
import Derived.WalkKit
import Derived.WalkSpells
import Derived.WalkLawsBesides
import Derived.Lib.Mul64
import Derived.Lib.TrailingZeros
import Derived.Lib.ItoaNum
import Derived.Deep.OwnRows
import Derived.Laws.CopyOwn
import Derived.BigQuiet
import Derived.Deep.RegionHeld3
import Derived.Deep.LoopGhost
import Derived.Deep.AppendLies
import Derived.Test.YtohhmobfmmeohaaGreatDoorKi20
import Derived.Test.YtohhmobfmmeohaaGreatDoorKi21
set_option maxRecDepth 100000
set_option maxHeartbeats 4000000
namespace Go.Proofs.YtohhmobfmmeohaaGreatDoor
open Go.RowKit
theorem dnat_one (w : World) : Big.D.NatV (w.alloc (.cells #[.int .u64 1] 22)) (.slice (some ⟨w.heap.size, 0, none⟩) 1 1) 1 := by
 refine ⟨_, 1, 1, w.heap.size, 0, fun i => if i = 0 then 1 else 0, rfl, ⟨Nat.le_refl _, by unfold maxLen; omega, fun _ => rfl, fun _ => by simp, fun i hi => ?_, fun i => ?_⟩, Or.inr (by simp), ?_⟩
 · obtain rfl : i = 0 := by omega
   simp
 · show (if i = 0 then 1 else 0) < Big.B
   split
   · decide
   · decide
 · rw [Big.V_succ, Big.V_zero, Nat.pow_zero]; rfl
theorem by_stepB {T x d : Nat} (hd : 0 < d) : (T * Big.B + x) / d = T / d * Big.B + (T % d * Big.B + x) / d ∧ (T * Big.B + x) % d = (T % d * Big.B + x) % d := by
 have e : T * Big.B + x = d * (T / d * Big.B) + (T % d * Big.B + x) := by
  have q := Nat.div_add_mod T d
  have r : T * Big.B = d * (T / d * Big.B) + T % d * Big.B := by
   rw [← Nat.mul_assoc, ← Nat.add_mul, q]
  omega
 rw [e, Nat.mul_add_div hd, Nat.mul_add_mod]
 exact ⟨rfl, rfl⟩
theorem V_topB (f : Nat → Nat) (k n : Nat) (h : k < n) : Big.V (fun i => f (k + i)) (n - k) = Big.V (fun i => f (k + 1 + i)) (n - (k + 1)) * Big.B + f k := by
 obtain ⟨m, e⟩ : ∃ m, n - k = 1 + m := ⟨n - k - 1, by omega⟩
 have s := Big.V_split (fun i => f (k + i)) 1 m
 rw [e, s, show n - (k + 1) = m by omega, Nat.pow_one, Big.V_succ, Big.V_zero, Nat.pow_zero, Nat.mul_one, Nat.zero_add, Nat.add_zero, Nat.add_comm]
 congr 2
 exact Big.V_congr fun i _ => by show f (k + (1 + i)) = f (k + 1 + i); rw [Nat.add_assoc]
theorem by_fits {T x d : Nat} (hT : T < d) (hx : x < Big.B) : (T * Big.B + x) / d < Big.B := by
 rw [Nat.div_lt_iff_lt_mul (by omega), Nat.mul_comm Big.B d]
 have := Nat.mul_le_mul_right Big.B (Nat.succ_le_of_lt hT)
 rw [Nat.succ_mul] at this
 omega
theorem toListData (s : ByteArray) : s.toList = s.data.toList := by
  have go : ∀ (n i : Nat) (r : List UInt8), n = s.size - i → ByteArray.toList.loop s i r = r.reverse ++ s.data.toList.drop i := by
    intro n
    induction n with
    | zero =>
      intro i r h
      rw [ByteArray.toList.loop, if_neg (by omega), List.drop_eq_nil_of_le (by simpa using (show s.size ≤ i by omega))]
      simp
    | succ n ih =>
      intro i r h
      have hi : i < s.size := by omega
      have hl : i < s.data.toList.length := by simpa using hi
      rw [ByteArray.toList.loop, if_pos hi, ih (i + 1) _ (by omega), List.drop_eq_getElem_cons hl, List.reverse_cons, List.append_assoc]
      congr 1
      simp only [List.singleton_append, List.cons.injEq, and_true]
      simp [ByteArray.get!, hi]
  show ByteArray.toList.loop s 0 [] = _
  simpa using go s.size 0 [] (by omega)
theorem list_some {t : ByteArray} (h : t.size ≠ 0) : t.toList.isEmpty = false := by
 rw [toListData]
 have l : t.data.toList.length = t.size := by rw [Array.length_toList]; rfl
 cases e : t.data.toList with
 | nil => rw [e] at l; exact absurd l.symm h
 | cons a b => rfl
structure Dr (w : World) (g n : Nat) (F : Nat → Nat) : Prop where
 lt : g < w.heap.size
 cell : ∀ i, i < n → w.cell? ⟨g, i, none⟩ = some (.int .u64 (F i : Int))
 fz : ∀ i, w.frozen? ⟨g, i, none⟩ = false
 ws : Big.Ws F
theorem Dr.set {w : World} {g n : Nat} {F : Nat → Nat} (h : Dr w g n F) (i : Nat) (hi : i < n) {r : Nat} (hr : r < Big.B) : Dr (w.setCell ⟨g, i, none⟩ (.int .u64 (r : Int))) g n (Big.put F i r) := by
 refine ⟨by simpa using h.lt, fun j hj => ?_, fun j => (World.frozen?_setCell ..).trans (h.fz j), Big.put_Ws h.ws hr⟩
 by_cases c : j = i
 · subst c
   rw [Big.put_at]
   exact World.cell?_setCell_same _ _ _ (h.cell j hi)
 · rw [Big.put_ne c]
   exact (World.cell?_setCell_other _ ⟨g, i, none⟩ ⟨g, j, none⟩ _ (by intro e; cases e; exact c rfl)).trans (h.cell j hj)
theorem Dr.less {w : World} {g n m : Nat} {F : Nat → Nat} (h : Dr w g n F) (hm : m ≤ n) : Dr w g m F := ⟨h.lt, fun i hi => h.cell i (by omega), h.fz, h.ws⟩
theorem Dr.sl {w : World} {g n c : Nat} {F : Nat → Nat} (h : Dr w g n F) (h1 : n ≤ c) (h2 : c ≤ maxLen) : Big.D.Sl w (some ⟨g, 0, none⟩) n c g 0 F :=
 ⟨h1, h2, fun _ => rfl, fun _ => h.lt, fun i hi => by rw [Nat.zero_add]; exact h.cell i hi, h.ws⟩
theorem own_dr {w : World} {base : Nat} {v : Value} {n : Nat} {F : Nat → Nat} (h : w.ownsRow base 22 1 v n (dV .u64 F n)) (hF : Big.Ws F) (h0 : 0 < n) :
 ∃ g c, v = .slice (some ⟨g, 0, none⟩) n c ∧ n ≤ c ∧ c ≤ maxLen ∧ base ≤ g ∧ Dr w g n F := by
 have q := own_cells h
 rcases h.2 with ⟨rfl, rfl⟩ | ⟨g, cap, cur, rfl, hbg, hheap, hle, hmx, hcs, htk⟩
 · omega
 · obtain ⟨ao, c, b, e, h1, h2, h3, h4⟩ := q
   obtain ⟨ea, _, _⟩ := h3 h0
   cases e
   cases ea
   refine ⟨g, cap, rfl, hle, hmx, hbg, (Array.getElem?_eq_some_iff.1 hheap).1, fun i hi => ?_, fun i => ?_, hF⟩
   · have := h4 i hi
     rw [Nat.zero_add] at this
     exact this
   · simp [World.frozen?, hheap]
theorem dec_step {X Y k r z : Nat} (hk : k < 9) (h : Y * 10 ^ (9 - k) + r = X / 10 ^ z) (hr : r < 10 ^ (9 - k)) (h0 : r ≠ 0 ∨ Y ≠ 0) :
 r / 10 < 10 ^ (9 - (k + 1)) ∧ Y * 10 ^ (9 - (k + 1)) + r / 10 = X / 10 ^ (z + 1) ∧ 10 ^ z ≤ X := by
 have e : 10 ^ (9 - k) = 10 ^ (9 - (k + 1)) * 10 := by rw [← Nat.pow_succ]; congr 1; omega
 rw [e] at h hr
 have pz : 0 < 10 ^ z := Nat.pow_pos (by omega)
 refine ⟨by omega, ?_, ?_⟩
 · rw [Nat.pow_succ, ← Nat.div_div_eq_div_mul, ← h, ← Nat.mul_assoc]
   omega
 · apply Nat.le_of_not_lt
   intro c
   rw [Nat.div_eq_of_lt c] at h
   have pk : 0 < 10 ^ (9 - (k + 1)) := Nat.pow_pos (by omega)
   rcases h0 with q | q
   · omega
   · have := Nat.mul_pos (Nat.pos_of_ne_zero q) (Nat.mul_pos pk (show 0 < 10 by omega))
     omega
theorem dec_sizeL {L X z : Nat} (hX : Fits L X) (h : 10 ^ z ≤ X) : z < 32 * L := by
 have a := hX.lt
 rw [D_pow] at a
 have b : 2 ^ z ≤ 10 ^ z := Nat.pow_le_pow_left (by omega) z
 have c : 2 ^ z < 2 ^ (32 * L) := by omega
 exact (Nat.pow_lt_pow_iff_right (by omega)).1 c
theorem dec_size {X z : Nat} (hX : Fits 400 X) (h : 10 ^ z ≤ X) : z < 12800 := dec_sizeL hX h
def tenB : ByteArray := ⟨#[48, 49, 50, 51, 52, 53, 54, 55, 56, 57]⟩
theorem tenB_size {r : Nat} (h : r < 10) : (tenB.extract r (r + 1)).size = 1 := by
 rw [ByteArray.size_extract]
 have : tenB.size = 10 := rfl
 omega
theorem dsmall_nat (x : Nat) (hx : x < Big.B) (w : World) :
 Calls Tryz.prog 41 #[.int .u64 (x : Int)] w fun e w' => ∃ v, e = .returned v ∧ Big.D.NatV w' v x ∧ Below w.heap.size w w' := by
 unfold Big.B at hx
 have e1 : (x : Int) % 4294967296 = (x : Int) := by omega
 have e2 : (x : Int) / 4294967296 = 0 := by omega
 have hS : ∀ W : World, Big.D.Sl (W.alloc (.cells #[.int .u64 (x : Int), .int .u64 0] 22)) (some ⟨W.heap.size, 0, none⟩) 2 2 W.heap.size 0 (fun i => if i = 0 then x else 0) := fun W =>
  ⟨Nat.le_refl _, by unfold maxLen; omega, fun _ => rfl, fun _ => by simp, fun i hi => by
   rcases (by omega : i = 0 ∨ i = 1) with rfl | rfl
   · simp
   · simp, fun i => by show (if i = 0 then x else 0) < Big.B; split; exact hx; decide⟩
 have hV : Big.V (fun i => if i = 0 then x else 0) 2 = x := by
  rw [Big.V_succ, Big.V_succ, Big.V_zero, Nat.pow_zero]; simp
 have HS : Hid (∀ W : World, Big.D.Sl (W.alloc (.cells #[.int .u64 (x : Int), .int .u64 0] 22)) (some ⟨W.heap.size, 0, none⟩) 2 2 W.heap.size 0 (fun i => if i = 0 then x else 0)) := hS
 have HV : Hid (Big.V (fun i => if i = 0 then x else 0) 2 = x) := hV
 clear hS hV
 have T := Big.D.trim_any (HS.out w)
 have NV := (HS.out w).trimmed
 rw [HV.out] at NV
 go_enter Tryz.func41, Tryz.ntmps41
 go_wp2_with fail
 refine T.mono ?_
 rintro e wa ⟨rfl, rfl⟩
 go_wp2
 go_ret
 exact ⟨_, rfl, NV, (Below.refl _ _).alloc (Nat.le_refl _) _⟩
theorem dfits_pow {b m : Nat} (hb : b ≤ 16) (hm : m ≤ 2400) : Fits 400 (b ^ m) := by
 have a : b ^ m ≤ 16 ^ m := Nat.pow_le_pow_left hb m
 rw [show 16 = 2 ^ 4 from rfl, ← Nat.pow_mul] at a
 exact (two_fits (s := 4 * m) (k := 400) (by omega)).le a
theorem dpow_any (b n : Nat) (h1 : 2 ≤ b) (h2 : b ≤ 16) (hn : n ≤ 1200) (w : World) :
 Calls Tryz.prog 60 #[.int .u64 (b : Int), .int .i64 (n : Int)] w fun e w' => ∃ v, e = .returned v ∧ Big.D.NatV w' v (b ^ n) ∧ Below w.heap.size w w' := by
 have S2 := fun W => dsmall_nat b (by unfold Big.B; omega) W
 have N1 := dnat_one w
 have bA : Below w.heap.size w (w.alloc (.cells #[.int .u64 1] 22)) := (Below.refl _ _).alloc (Nat.le_refl _) _
 have HB : Hid (2 ≤ b ∧ b ≤ 16 ∧ n ≤ 1200) := ⟨h1, h2, hn⟩
 clear h1 h2
 go_enter Tryz.func60, Tryz.ntmps60
 go_wp2_with fail
 refine (S2 _).mono ?_
 rintro e w2 ⟨v2, rfl, n2, b2⟩
 have N2 : Hid (Big.D.NatV w2 (.slice (some ⟨w.heap.size, 0, none⟩) 1 1) 1 ∧ Big.D.NatV w2 v2 b ∧ Below w.heap.size w w2) := ⟨N1.below b2, n2, bA.trans (b2.mono bA.size)⟩
 clear n2 b2 N1 S2 bA
 go_wp2
 go_loopw [1, 5, 6] (fun nv ov pv wr => ∃ (m i j : Nat), nv = .int .i64 (m : Int) ∧ m ≤ 1200 ∧ Hid (Big.D.NatV wr ov (b ^ i) ∧ Big.D.NatV wr pv (b ^ j) ∧ Below w.heap.size w wr ∧ i + j * m = n)) (fun nv _ _ _ => (intOf nv).toNat)
 case atStart => exact ⟨n, 0, 1, rfl, hn, by rw [Nat.pow_zero, Nat.pow_one]; exact ⟨N2.out.1, N2.out.2.1, N2.out.2.2, by rw [Nat.zero_add, Nat.one_mul]⟩⟩
 case round =>
  clear N2
  obtain ⟨m, i, j, rfl, hm, HI⟩ := hrel
  by_cases m0 : 0 < m
  · obtain ⟨h, hh⟩ : ∃ h, h = m / 2 := ⟨_, rfl⟩
    have jm : j ≤ j * m := Nat.le_mul_of_pos_right j m0
    have e2 : (m : Int) / 2 = (h : Int) := by omega
    have hb64 : h ≤ 1200 := by omega
    have hlt : h < m := by omega
    have FX : Hid (Fits 1000 (b ^ i) ∧ Fits 1000 (b ^ j)) := ⟨(dfits_pow HB.out.2.1 (by have := HI.out.2.2.2; have := HB.out; omega)).up (by omega), (dfits_pow HB.out.2.1 (by have := HI.out.2.2.2; have := HB.out; omega)).up (by omega)⟩
    have an := and_one m (by omega)
    rcases Nat.mod_two_eq_zero_or_one m with odd | odd
    · rw [odd] at an
      have HS : Hid (i + (j + j) * h = n) := by
       have a := HI.out.2.2.2
       rw [show m = 2 * h by omega, Nat.mul_left_comm] at a
       show _ = _
       rw [Nat.add_mul]
       omega
      have T2 := dmul_nat HI.out.2.1 HI.out.2.1 FX.out.2 FX.out.2
      rw [← Nat.pow_add] at T2
      clear odd hh jm
      go_wp2_with fail
      refine T2.mono ?_
      rintro e w4 ⟨v4, rfl, n4, b4⟩
      have N4 : Hid (Big.D.NatV w4 u5 (b ^ i) ∧ Big.D.NatV w4 v4 (b ^ (j + j)) ∧ Below w.heap.size w w4) := ⟨HI.out.1.below b4, n4, HI.out.2.2.1.trans (b4.mono HI.out.2.2.1.size)⟩
      clear n4 b4 T2
      go_wp2
      go_roundw
      case rel => exact ⟨h, i, j + j, by first | rfl | go_num | (rw [e2]), hb64, N4.out.1, N4.out.2.1, N4.out.2.2, HS.out⟩
      case measure => simp [intOf]; omega
    · rw [odd] at an
      have HS : Hid ((i + j) + (j + j) * h = n) := by
       have a := HI.out.2.2.2
       rw [show m = 2 * h + 1 by omega, Nat.mul_add, Nat.mul_one, Nat.mul_left_comm] at a
       show _ = _
       rw [Nat.add_mul]
       omega
      have T1 := dmul_nat HI.out.1 HI.out.2.1 FX.out.1 FX.out.2
      rw [← Nat.pow_add] at T1
      clear odd hh jm
      go_wp2_with fail
      refine T1.mono ?_
      rintro e w3 ⟨v3, rfl, n3, b3⟩
      have N3 : Hid (Big.D.NatV w3 v3 (b ^ (i + j)) ∧ Big.D.NatV w3 u6 (b ^ j) ∧ Below w.heap.size w w3) := ⟨n3, HI.out.2.1.below b3, HI.out.2.2.1.trans (b3.mono HI.out.2.2.1.size)⟩
      clear n3 b3 T1
      have T2 := dmul_nat N3.out.2.1 N3.out.2.1 FX.out.2 FX.out.2
      rw [← Nat.pow_add] at T2
      go_wp2_with fail
      refine T2.mono ?_
      rintro e w4 ⟨v4, rfl, n4, b4⟩
      have N4 : Hid (Big.D.NatV w4 v3 (b ^ (i + j)) ∧ Big.D.NatV w4 v4 (b ^ (j + j)) ∧ Below w.heap.size w w4) := ⟨N3.out.1.below b4, n4, N3.out.2.2.trans (b4.mono N3.out.2.2.size)⟩
      clear n4 b4 T2
      go_wp2
      go_roundw
      case rel => exact ⟨h, i + j, j + j, by first | rfl | go_num | (rw [e2]), hb64, N4.out.1, N4.out.2.1, N4.out.2.2, HS.out⟩
      case measure => simp [intOf]; omega
  · obtain rfl : m = 0 := by omega
    have hin : i = n := by have := HI.out.2.2.2; rw [Nat.mul_zero] at this; omega
    subst hin
    go_wp2
    go_ret
    exact ⟨_, rfl, HI.out.1, HI.out.2.2.1⟩
end Go.Proofs.YtohhmobfmmeohaaGreatDoor
