/-
  The document's Times of layer 14 where the small road is sure, and with it Power and Whole.
-/
import Derived.Test.YtfgopmgmmpkbeaaEwF
import Derived.Test.YtfgopmgmmpkbeaaEwG
namespace Go.Proofs.Ytfgopmgmmpkbeaa
open Go.RowKit

theorem fz_xz {s : Int} {f T : Nat} {L : Int} {M K : Nat} (h : Xz s f T L M K) : ∃ g n, Fz s g n f T L := by
  rcases h with ⟨rfl, rfl, rfl, rfl, rfl, rfl⟩ | ⟨rfl, rfl, rfl, rfl, rfl, rfl⟩
  · exact ⟨_, _, z32⟩
  · exact ⟨_, _, z64⟩
theorem xz_pos {s : Int} {f T : Nat} {L : Int} {M K : Nat} (h : Xz s f T L M K) : 0 < f ∧ 2 ≤ T ∧ M ≤ 9007199254740992 ∧ K ≤ 22 := by
  rcases h with ⟨rfl, rfl, rfl, rfl, rfl, rfl⟩ | ⟨rfl, rfl, rfl, rfl, rfl, rfl⟩ <;> decide
theorem times_zero (e s : Int) (w : World) : Calls Try.prog 10 #[.int .u64 0, .int .i64 e, .int .i64 s] w fun x w' => x = .returned (.int .u64 0) ∧ w' = w := by
  go_enter Try.func10, Try.ntmps10
  go_wp2
  go_ret
  exact ⟨rfl, rfl⟩
/-- A number's text without the noughts at its end, as a decimal. -/
theorem row_vn {X K m : Nat} {p : Int} (hK : 1 ≤ K) (h9 : K ≤ 800) (h0 : 10 ^ (K - 1) ≤ X) (hX : X < 10 ^ K) (hm : m ≤ K) (m0 : 0 < m) (hl : dgt (rowText 10 X K) (m - 1) ≠ 48) (hp : -1000000 ≤ p) (hq : p ≤ 1000000) : VN ((rowText 10 X K).extract 0 m) p false := by
  have sz : ((rowText 10 X K).extract 0 m).size = m := by rw [ByteArray.size_extract, rowText_size]; omega
  have hs : m ≤ (rowText 10 X K).size := by rw [rowText_size]; exact hm
  refine ⟨by omega, by omega, fun k hk => ?_, ?_, .inl ?_, by omega, by omega⟩
  · rw [← dgt_lt hk, dgt_pre hs (by omega)]
    exact dgt_dg (dg_row X K) k
  · rw [← dgt_lt, dgt_pre hs (by omega)]
    exact row_first hK h0 hX
  · rw [← dgt_lt, dgt_pre hs (by omega), sz]
    exact hl
theorem ext_all (t : ByteArray) : t.extract 0 t.size = t := by
  apply ByteArray.ext
  rw [ByteArray.data_extract]
  exact Array.extract_size
/-- What is made of a number's text, and what that is rounded to. -/
theorem row_parts {s : Int} {f T : Nat} {L : Int} {M K : Nat} (h : Xz s f T L M K) {m N : Nat} {e : Int} (hm : m ≤ M) (h0 : -(K : Int) ≤ e) (h1 : e ≤ K) (k1 : 1 ≤ N) (k2 : 10 ^ (N - 1) ≤ m) (k3 : m < 10 ^ N) :
    N ≤ 17 ∧ ∃ (u : ByteArray) (o : Int), (∀ W, Calls Try.prog 25 #[.string (rowText 10 m N), .int .i64 ((N : Int) + e), .bool false] W fun x w' => x = .returned (.tuple #[dcV u ((N : Int) + e) false, .int .i64 0]) ∧ Below W.heap.size W w') ∧
      (∀ W, Calls Try.prog 26 #[dcV u ((N : Int) + e) false, .int .i64 s] W fun x w' => x = .returned (.tuple #[.int .u64 ((exA f T L m e : Nat) : Int), .int .i64 o]) ∧ Below W.heap.size W w') := by
  obtain ⟨g, n, hz⟩ := fz_xz h
  obtain ⟨pf, _, pM, pK⟩ := xz_pos h
  have N17 : N ≤ 17 := by
    apply Nat.le_of_not_lt
    intro q
    have a : 10 ^ 17 ≤ 10 ^ (N - 1) := Nat.pow_le_pow_right (by decide) (by omega)
    have b : (10 : Nat) ^ 17 = 100000000000000000 := by decide
    omega
  refine ⟨N17, ?_⟩
  obtain ⟨c, hc, hc1, hc2⟩ := no_noughts (rowText 10 m N) N
  have rs := rowText_size 10 m N
  have c0 : 0 < c := by
    apply Nat.pos_of_ne_zero
    intro z
    subst z
    exact row_first k1 k2 k3 (hc1 0 (Nat.le_refl _) k1)
  have hl : dgt (rowText 10 m N) (c - 1) ≠ 48 := hc2.resolve_left (by omega)
  have V : VN ((rowText 10 m N).extract 0 c) ((N : Int) + e) false := row_vn k1 (by omega) k2 k3 hc c0 hl (by omega) (by omega)
  refine ⟨(rowText 10 m N).extract 0 c, if (rdA f T L (frN ((rowText 10 m N).extract 0 c) (nrP ((N : Int) + e))) (frD ((rowText 10 m N).extract 0 c) (nrP ((N : Int) + e))) 0 false).2 then 4 else 0, fun W => ?_, fun W => ?_⟩
  · have R := rmake_in (t := rowText 10 m N) (p := (N : Int) + e) (by omega) (dg_row m N) (z := 0) (by omega) (fun i q => absurd q (by omega)) (row_first k1 k2 k3) (ext_all _) (by omega) (m := c) (by omega) c0 (fun i p q => hc1 i p (by omega)) hl (by omega) (by omega) (by unfold inR; omega) W
    rw [show (N : Int) + e - ((0 : Nat) : Int) = (N : Int) + e from by omega] at R
    exact R
  · have R := nearest14 hz V W
    have sz : ((rowText 10 m N).extract 0 c).size = c := by rw [ByteArray.size_extract, rs]; omega
    have e1 : nrP ((N : Int) + e) = (N : Int) + e := by unfold nrP; rw [if_neg (by omega), if_neg (by omega)]
    have e2 : dvA ((rowText 10 m N).extract 0 c) 0 c = dvA (rowText 10 m N) 0 c := dvA_same fun i q => by rw [Nat.zero_add]; exact dgt_pre (by omega) q
    have e3 : exA f T L m e = (rdA f T L (frN ((rowText 10 m N).extract 0 c) (nrP ((N : Int) + e))) (frD ((rowText 10 m N).extract 0 c) (nrP ((N : Int) + e))) 0 false).1 := by
      unfold exA frN frD
      rw [e1, sz, e2]
      rw [show (c : Int) - ((N : Int) + e) = -((N : Int) + e - c) from by omega]
      rw [frac_same pf (row_cut k3 hc hc1) hc rfl]
    rw [e3]
    exact R
set_option maxRecDepth 100000 in
set_option maxHeartbeats 1000000 in
theorem times14 {s : Int} {f T : Nat} {L : Int} {M K : Nat} (h : Xz s f T L M K) {m : Nat} {e : Int} (m0 : m ≠ 0) (hm : m ≤ M) (h0 : -(K : Int) ≤ e) (h1 : e ≤ K) (w : World) : Calls Try.prog 10 #[.int .u64 (m : Int), .int .i64 e, .int .i64 s] w fun x w' => x = .returned (.int .u64 ((exA f T L m e : Nat) : Int)) ∧ Below w.heap.size w w' := by
  obtain ⟨pf, _, pM, pK⟩ := xz_pos h
  have mB : m < B := by unfold B; omega
  have mB2 : m < B ^ 128 := Nat.lt_of_lt_of_le mB (Nat.le_self_pow (by decide) _)
  have T0 := fun W => small_nat m mB W
  have T1 : ∀ {W : World} {v : Value}, Big.NatV W v m → _ := fun {W v} a => tell_any a m0 mB2 10 (by decide) (by decide)
  rw [show ((10 : Nat) : Int) = 10 from rfl] at T1
  have HR : Hid (∀ N, 1 ≤ N → 10 ^ (N - 1) ≤ m → m < 10 ^ N → N ≤ 17 ∧ ∃ (u : ByteArray) (o : Int), (∀ W, Calls Try.prog 25 #[.string (rowText 10 m N), .int .i64 ((N : Int) + e), .bool false] W fun x w' => x = .returned (.tuple #[dcV u ((N : Int) + e) false, .int .i64 0]) ∧ Below W.heap.size W w') ∧
      (∀ W, Calls Try.prog 26 #[dcV u ((N : Int) + e) false, .int .i64 s] W fun x w' => x = .returned (.tuple #[.int .u64 ((exA f T L m e : Nat) : Int), .int .i64 o]) ∧ Below W.heap.size W w')) := fun N a b c => row_parts h hm h0 h1 a b c
  generalize exA f T L m e = R at *
  have c0 : ((m : Int) == 0) = false := by simp; omega
  have c1 : e ≤ 1000 := by omega
  have c2 : -1000 < e := by omega
  have HE : Hid (-22 ≤ e ∧ e ≤ 22) := ⟨by omega, by omega⟩
  clear m0 hm h0 h1 mB mB2 h pf pM pK
  go_enter Try.func10, Try.ntmps10
  go_wp2_with fail
  refine (T0 _).mono ?_
  rintro x w1 ⟨v1, rfl, n1, b1⟩
  have T1' := T1 n1
  have B1 : Hid (Below w.heap.size w w1) := b1
  clear n1 b1 T0 T1
  go_wp2_with fail
  refine T1'.mono ?_
  rintro x w2 ⟨N, rfl, k1, k2, k3, b2⟩
  have B2 : Hid (Below w.heap.size w w2) := B1.out.trans (b2.mono B1.out.size)
  obtain ⟨N17, u, o, T2, T3⟩ := HR.out N k1 k2 k3
  have sz := rowText_size 10 m N
  have rg : -22 ≤ e ∧ e ≤ 22 := HE.out
  clear b2 T1' B1 HR k1 k2 k3 HE
  generalize rowText 10 m N = t at *
  unfold dcV at *
  subst sz
  go_wp2_with fail
  refine (T2 _).mono ?_
  rintro x w3 ⟨rfl, b3⟩
  have B3 : Hid (Below w.heap.size w (w3.alloc (.cells #[.string u, .int .i64 ((t.size : Int) + e), .bool false] 57))) := (B2.out.trans (b3.mono B2.out.size)).alloc (Nat.le_trans B2.out.size b3.size) _
  clear b3 T2 B2
  go_wp2_with fail
  refine (T3 _).mono ?_
  rintro x w4 ⟨rfl, b4⟩
  have B4 : Hid (Below w.heap.size w w4) := B3.out.trans (b4.mono B3.out.size)
  clear b4 T3 B3
  go_wp2
  go_ret
  exact ⟨rfl, B4.out⟩
/-- Times for every number that the small road holds, 0 among them. -/
theorem times_any {s : Int} {f T : Nat} {L : Int} {M K : Nat} (h : Xz s f T L M K) {m : Nat} {e : Int} (hm : m ≤ M) (h0 : -(K : Int) ≤ e) (h1 : e ≤ K) (w : World) : Calls Try.prog 10 #[.int .u64 (m : Int), .int .i64 e, .int .i64 s] w fun x w' => x = .returned (.int .u64 ((exA f T L m e : Nat) : Int)) ∧ Below w.heap.size w w' := by
  by_cases z : m = 0
  · subst z
    rw [exA_zero]
    exact (times_zero e s w).mono fun x w' ⟨a, b⟩ => ⟨a, by rw [b]; exact Below.refl _ _⟩
  · exact times14 h z hm h0 h1 w
theorem rpow_no {s : Int} (h : Sn s) (n : Int) (w : World) : Calls Try.prog 12 #[.int .i64 n, .int .i64 s] w fun x w' => x = .returned (.tuple #[.int .u64 0, .int .i64 5]) ∧ w' = w := by
  have T := fun W => rmost_no h W
  clear h
  go_enter Try.func12, Try.ntmps12
  go_wp2_with fail
  refine (T _).mono ?_
  rintro x w1 ⟨rfl, rfl⟩
  go_wp2
  refine bodyPost_ret (v := .tuple #[.int .u64 0, .int .i64 5]) (by simp [results, Try.results12, go_sem]) rfl ⟨rfl, rfl⟩
theorem rpow_bad {s : Int} {f T : Nat} {L : Int} {M K : Nat} (h : Xz s f T L M K) {n : Int} (hn : n < 0 ∨ (K : Int) < n) (w : World) : Calls Try.prog 12 #[.int .i64 n, .int .i64 s] w fun x w' => x = .returned (.tuple #[.int .u64 0, .int .i64 1]) ∧ w' = w := by
  have T := fun W => rmost_ok h W
  clear h
  by_cases c : n < 0
  · clear hn
    go_enter Try.func12, Try.ntmps12
    go_wp2_with fail
    refine (T _).mono ?_
    rintro x w1 ⟨rfl, rfl⟩
    go_wp2
    refine bodyPost_ret (v := .tuple #[.int .u64 0, .int .i64 1]) (by simp [results, Try.results12, go_sem]) rfl ⟨rfl, rfl⟩
  · have c2 : (K : Int) < n := by omega
    clear hn
    go_enter Try.func12, Try.ntmps12
    go_wp2_with fail
    refine (T _).mono ?_
    rintro x w1 ⟨rfl, rfl⟩
    go_wp2
    refine bodyPost_ret (v := .tuple #[.int .u64 0, .int .i64 1]) (by simp [results, Try.results12, go_sem]) rfl ⟨rfl, rfl⟩
theorem rpow_yes {s : Int} {f T : Nat} {L : Int} {M K : Nat} (h : Xz s f T L M K) {n : Int} (h0 : 0 ≤ n) (h1 : n ≤ K) (w : World) : Calls Try.prog 12 #[.int .i64 n, .int .i64 s] w fun x w' => x = .returned (.tuple #[.int .u64 ((exA f T L 1 n : Nat) : Int), .int .i64 0]) ∧ Below w.heap.size w w' := by
  have T := fun W => rmost_ok h W
  have hm : 1 ≤ M := by rcases h with ⟨_, _, _, _, q, _⟩ | ⟨_, _, _, _, q, _⟩ <;> omega
  have R := fun W => times_any h (m := 1) (e := n) hm (by omega) h1 W
  rw [show ((1 : Nat) : Int) = 1 from rfl] at R
  have c1 : ¬ n < 0 := by omega
  have c2 : ¬ (K : Int) < n := by omega
  clear h h0 h1 hm
  generalize exA f _ L 1 n = RR at *
  go_enter Try.func12, Try.ntmps12
  go_wp2_with fail
  refine (T _).mono ?_
  rintro x w1 ⟨rfl, rfl⟩
  go_wp2_with fail
  refine (R _).mono ?_
  rintro x w2 ⟨rfl, b2⟩
  have B2 : Hid (Below _ _ w2) := b2
  clear b2
  go_wp2
  refine bodyPost_ret (v := .tuple #[.int .u64 (RR : Int), .int .i64 0]) (by simp [results, Try.results12, go_sem]) rfl ⟨rfl, B2.out⟩
theorem rwhole_no {s : Int} (h : Sn s) (m : Int) (w : World) : Calls Try.prog 16 #[.int .u64 m, .int .i64 s] w fun x w' => x = .returned (.tuple #[.int .u64 0, .bool false, .int .i64 5]) ∧ w' = w := by
  have T := fun W => rmost_no h W
  clear h
  go_enter Try.func16, Try.ntmps16
  go_wp2_with fail
  refine (T _).mono ?_
  rintro x w1 ⟨rfl, rfl⟩
  go_wp2
  refine bodyPost_ret (v := .tuple #[.int .u64 0, .bool false, .int .i64 5]) (by simp [results, Try.results16, go_sem]) rfl ⟨rfl, rfl⟩
theorem rwhole_un {s : Int} {f T : Nat} {L : Int} {M K : Nat} (h : Xz s f T L M K) {m : Nat} (hm : M < m) (w : World) : Calls Try.prog 16 #[.int .u64 (m : Int), .int .i64 s] w fun x w' => x = .returned (.tuple #[.int .u64 0, .bool false, .int .i64 0]) ∧ w' = w := by
  have T := fun W => rmost_ok h W
  have c : (M : Int) < (m : Int) := by omega
  clear h hm
  go_enter Try.func16, Try.ntmps16
  go_wp2_with fail
  refine (T _).mono ?_
  rintro x w1 ⟨rfl, rfl⟩
  go_wp2
  refine bodyPost_ret (v := .tuple #[.int .u64 0, .bool false, .int .i64 0]) (by simp [results, Try.results16, go_sem]) rfl ⟨rfl, rfl⟩
theorem rwhole_yes {s : Int} {f T : Nat} {L : Int} {M K : Nat} (h : Xz s f T L M K) {m : Nat} (hm : m ≤ M) (w : World) : Calls Try.prog 16 #[.int .u64 (m : Int), .int .i64 s] w fun x w' => x = .returned (.tuple #[.int .u64 ((exA f T L m 0 : Nat) : Int), .bool true, .int .i64 0]) ∧ Below w.heap.size w w' := by
  have T := fun W => rmost_ok h W
  have R := fun W => times_any h (m := m) (e := 0) hm (by omega) (by omega) W
  have c : ¬ (M : Int) < (m : Int) := by omega
  clear h hm
  generalize exA f _ L m 0 = RR at *
  go_enter Try.func16, Try.ntmps16
  go_wp2_with fail
  refine (T _).mono ?_
  rintro x w1 ⟨rfl, rfl⟩
  go_wp2_with fail
  refine (R _).mono ?_
  rintro x w2 ⟨rfl, b2⟩
  have B2 : Hid (Below _ _ w2) := b2
  clear b2
  go_wp2
  refine bodyPost_ret (v := .tuple #[.int .u64 (RR : Int), .bool true, .int .i64 0]) (by simp [results, Try.results16, go_sem]) rfl ⟨rfl, B2.out⟩
end Go.Proofs.Ytfgopmgmmpkbeaa
