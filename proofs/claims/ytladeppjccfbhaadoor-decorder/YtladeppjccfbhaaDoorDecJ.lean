/-
  The document's Round at fewer digits than there are; below of all digits.
-/
import Derived.Test.YtladeppjccfbhaaDoorDecI
namespace Go.Proofs.YtladeppjccfbhaaDoor
open Go.RowKit

theorem below_self {s : ByteArray} {p : Int} (h : VD s p false) {n : Nat} (hn : n ≤ 800) (hs : s.size ≤ n) (w : World) :
    Calls Tryd.prog 50 #[dcV s p false, .int .i64 n] w fun e w' => e = .returned (dcV s p false) ∧ Below w.heap.size w w' := by
  rcases h with ⟨z, hp, _⟩ | g
  · have q := below_any (s := s) (p := p) (c := false) (by omega) hn (k := 0) (m := 0) (by omega) (by omega) (fun i a b => by omega) (fun x => by omega) w
    unfold lowD at q
    rw [if_pos rfl, ← size_zero z, ← hp] at q
    exact q
  · have l := g.last.resolve_right (by decide)
    have p0 := g.pos
    have q := below_any (s := s) (p := p) (c := false) g.len hn (k := s.size) (m := s.size) (by omega) (Nat.le_refl _) (fun i a b => by omega) (fun _ => by rw [dgt_lt (by omega)]; exact l) w
    unfold lowD at q
    rw [if_neg (by omega), ext_zero] at q
    exact q

set_option maxRecDepth 100000 in
set_option maxHeartbeats 1000000 in
theorem rround_lo {s : ByteArray} {p : Int} {c : Bool} {n : Nat} {s2 : ByteArray} {p2 kk : Int} (g : VN s p c) (hn : n < s.size) (Mk : ∀ W, Calls Tryd.prog 51 #[dcV s p c, .int .i64 n, .bool (upB s c n)] W fun e w' => e = .returned (.tuple #[dcV s2 p2 false, .int .i64 kk]) ∧ Below W.heap.size W w') (w : World) :
    Calls Tryd.prog 13 #[dcV s p c, .int .i64 n] w fun e w' => e = .returned (.tuple #[dcV s2 p2 false, .int .i64 kk]) ∧ Below w.heap.size w w' := by
  have VV := fun W => rvald_yes (Or.inr g : VD s p c) W
  have hl := g.len
  have n8 : ¬ (800 : Int) < (n : Int) := by omega
  have nl : ¬ (s.size : Int) ≤ (n : Int) := by omega
  obtain ⟨x, hx⟩ : ∃ x, x = (s[n]'hn).toNat := ⟨_, rfl⟩
  have ex : dgt s n = x := by rw [dgt_lt hn, hx]
  have R0 := OneR.start w s p c
  by_cases c1 : x = 53
  · have e1 : ((((s[n]'hn).toNat : Nat) : Int) == 53) = true := beq_iff_eq.mpr (by omega)
    have wn : IntKind.i64.wrap ((n : Int) + 1) = (n : Int) + 1 := by
      unfold IntKind.wrap
      simp [IntKind.bits, IntKind.signed]
      omega
    by_cases n0 : n = 0
    · have k0 : ¬ 0 < n := by omega
      cases c
      · by_cases c3 : n + 1 < s.size
        · have c4 : (n : Int) + 1 < (s.size : Int) := by omega
          have hb : upB s false n = true := by
            unfold upB
            rw [ex, if_pos c1]
            simp [c3, k0]
          rw [hb] at Mk
          clear hb ex hx c1 g n0
          unfold dcV at *
          go_enter Tryd.func13, Tryd.ntmps13
          go_wp2_with fail
          refine (VV _).mono ?_
          rintro e w1 ⟨rfl, hb1⟩
          have HT1 := R0.step hb1
          have HH1 : Hid (OneR w w1 s p _) := HT1
          clear hb1 R0
          obtain ⟨_, _, a0, a1, a2, r0, r1, r2, fr⟩ := HT1
          go_wp2_with fail
          refine (Mk _).mono ?_
          rintro e w2 ⟨rfl, hb2⟩
          have HT2 := HH1.out.step hb2
          have HH2 : Hid (OneR w w2 s p _) := HT2
          clear hb2 a0 a1 a2 r0 r1 r2 fr
          obtain ⟨_, _, a0, a1, a2, r0, r1, r2, fr⟩ := HT2
          go_wp2
          refine bodyPost_ret (v := .tuple #[.agg #[.string s2, .int .i64 p2, .bool false], .int .i64 kk]) (by simp [results, Tryd.results13, go_sem, *]) rfl ⟨rfl, ?_⟩
          exact (((HH2.out.bel.setCell (by simp) _).setCell (by simp) _).setCell (by simp) _)
        · have c4 : (s.size : Int) = (n : Int) + 1 := by omega
          clear nl
          have hb : upB s false n = false := by
            unfold upB
            rw [ex, if_pos c1]
            simp [c3, k0]
          rw [hb] at Mk
          clear hb ex hx c1 g n0
          unfold dcV at *
          go_enter Tryd.func13, Tryd.ntmps13
          go_wp2_with fail
          refine (VV _).mono ?_
          rintro e w1 ⟨rfl, hb1⟩
          have HT1 := R0.step hb1
          have HH1 : Hid (OneR w w1 s p _) := HT1
          clear hb1 R0
          obtain ⟨_, _, a0, a1, a2, r0, r1, r2, fr⟩ := HT1
          go_wp2_with fail
          refine (Mk _).mono ?_
          rintro e w2 ⟨rfl, hb2⟩
          have HT2 := HH1.out.step hb2
          have HH2 : Hid (OneR w w2 s p _) := HT2
          clear hb2 a0 a1 a2 r0 r1 r2 fr
          obtain ⟨_, _, a0, a1, a2, r0, r1, r2, fr⟩ := HT2
          go_wp2
          refine bodyPost_ret (v := .tuple #[.agg #[.string s2, .int .i64 p2, .bool false], .int .i64 kk]) (by simp [results, Tryd.results13, go_sem, *]) rfl ⟨rfl, ?_⟩
          exact (((HH2.out.bel.setCell (by simp) _).setCell (by simp) _).setCell (by simp) _)
      · skip
        have hb : upB s true n = true := by
          unfold upB
          rw [ex, if_pos c1]
          simp []
        rw [hb] at Mk
        clear hb ex hx c1 g n0
        unfold dcV at *
        go_enter Tryd.func13, Tryd.ntmps13
        go_wp2_with fail
        refine (VV _).mono ?_
        rintro e w1 ⟨rfl, hb1⟩
        have HT1 := R0.step hb1
        have HH1 : Hid (OneR w w1 s p _) := HT1
        clear hb1 R0
        obtain ⟨_, _, a0, a1, a2, r0, r1, r2, fr⟩ := HT1
        go_wp2_with fail
        refine (Mk _).mono ?_
        rintro e w2 ⟨rfl, hb2⟩
        have HT2 := HH1.out.step hb2
        have HH2 : Hid (OneR w w2 s p _) := HT2
        clear hb2 a0 a1 a2 r0 r1 r2 fr
        obtain ⟨_, _, a0, a1, a2, r0, r1, r2, fr⟩ := HT2
        go_wp2
        refine bodyPost_ret (v := .tuple #[.agg #[.string s2, .int .i64 p2, .bool false], .int .i64 kk]) (by simp [results, Tryd.results13, go_sem, *]) rfl ⟨rfl, ?_⟩
        exact (((HH2.out.bel.setCell (by simp) _).setCell (by simp) _).setCell (by simp) _)
    · have hn1 : n - 1 < s.size := by omega
      have ix : ((n : Int) - 1).toNat = n - 1 := by omega
      have k0 : 0 < n := by omega
      obtain ⟨y, hy⟩ : ∃ y, y = (s[n - 1]'hn1).toNat := ⟨_, rfl⟩
      have ey : dgt s (n - 1) = y := by rw [dgt_lt hn1, hy]
      have yd := dgt_in g.dg (n - 1)
      rw [ey] at yd
      have wy : IntKind.u8.wrap ((((s[n - 1]'hn1).toNat : Nat) : Int) - 48) = ((y - 48 : Nat) : Int) := by
        rw [← hy]
        unfold IntKind.wrap
        simp [IntKind.bits, IntKind.signed]
        omega
      by_cases od : (y - 48) % 2 = 1
      · have od2 : ((((y - 48 : Nat) : Int) % 2) == 1) = true := beq_iff_eq.mpr (by omega)
        have hb : upB s c n = true := by
          unfold upB
          rw [ex, if_pos c1]
          simp [k0, ey, od]
        rw [hb] at Mk
        clear hb ex hx c1 g hy ey od yd
        cases c
        all_goals
          unfold dcV at *
          go_enter Tryd.func13, Tryd.ntmps13
          go_wp2_with fail
          refine (VV _).mono ?_
          rintro e w1 ⟨rfl, hb1⟩
          have HT1 := R0.step hb1
          have HH1 : Hid (OneR w w1 s p _) := HT1
          clear hb1 R0
          obtain ⟨_, _, a0, a1, a2, r0, r1, r2, fr⟩ := HT1
          go_wp2_with fail
          refine (Mk _).mono ?_
          rintro e w2 ⟨rfl, hb2⟩
          have HT2 := HH1.out.step hb2
          have HH2 : Hid (OneR w w2 s p _) := HT2
          clear hb2 a0 a1 a2 r0 r1 r2 fr
          obtain ⟨_, _, a0, a1, a2, r0, r1, r2, fr⟩ := HT2
          go_wp2
          refine bodyPost_ret (v := .tuple #[.agg #[.string s2, .int .i64 p2, .bool false], .int .i64 kk]) (by simp [results, Tryd.results13, go_sem, *]) rfl ⟨rfl, ?_⟩
          exact (((HH2.out.bel.setCell (by simp) _).setCell (by simp) _).setCell (by simp) _)
      · have od2 : ((((y - 48 : Nat) : Int) % 2) == 1) = false := beq_eq_false_iff_ne.mpr (by omega)
        cases c
        · by_cases c3 : n + 1 < s.size
          · have c4 : (n : Int) + 1 < (s.size : Int) := by omega
            have hb : upB s false n = true := by
              unfold upB
              rw [ex, if_pos c1]
              simp [c3]
            rw [hb] at Mk
            clear hb ex hx c1 g hy ey od yd
            unfold dcV at *
            go_enter Tryd.func13, Tryd.ntmps13
            go_wp2_with fail
            refine (VV _).mono ?_
            rintro e w1 ⟨rfl, hb1⟩
            have HT1 := R0.step hb1
            have HH1 : Hid (OneR w w1 s p _) := HT1
            clear hb1 R0
            obtain ⟨_, _, a0, a1, a2, r0, r1, r2, fr⟩ := HT1
            go_wp2_with fail
            refine (Mk _).mono ?_
            rintro e w2 ⟨rfl, hb2⟩
            have HT2 := HH1.out.step hb2
            have HH2 : Hid (OneR w w2 s p _) := HT2
            clear hb2 a0 a1 a2 r0 r1 r2 fr
            obtain ⟨_, _, a0, a1, a2, r0, r1, r2, fr⟩ := HT2
            go_wp2
            refine bodyPost_ret (v := .tuple #[.agg #[.string s2, .int .i64 p2, .bool false], .int .i64 kk]) (by simp [results, Tryd.results13, go_sem, *]) rfl ⟨rfl, ?_⟩
            exact (((HH2.out.bel.setCell (by simp) _).setCell (by simp) _).setCell (by simp) _)
          · have c4 : (s.size : Int) = (n : Int) + 1 := by omega
            clear nl
            have hb : upB s false n = false := by
              unfold upB
              rw [ex, if_pos c1]
              simp [c3, ey, od]
            rw [hb] at Mk
            clear hb ex hx c1 g hy ey od yd
            unfold dcV at *
            go_enter Tryd.func13, Tryd.ntmps13
            go_wp2_with fail
            refine (VV _).mono ?_
            rintro e w1 ⟨rfl, hb1⟩
            have HT1 := R0.step hb1
            have HH1 : Hid (OneR w w1 s p _) := HT1
            clear hb1 R0
            obtain ⟨_, _, a0, a1, a2, r0, r1, r2, fr⟩ := HT1
            go_wp2_with fail
            refine (Mk _).mono ?_
            rintro e w2 ⟨rfl, hb2⟩
            have HT2 := HH1.out.step hb2
            have HH2 : Hid (OneR w w2 s p _) := HT2
            clear hb2 a0 a1 a2 r0 r1 r2 fr
            obtain ⟨_, _, a0, a1, a2, r0, r1, r2, fr⟩ := HT2
            go_wp2
            refine bodyPost_ret (v := .tuple #[.agg #[.string s2, .int .i64 p2, .bool false], .int .i64 kk]) (by simp [results, Tryd.results13, go_sem, *]) rfl ⟨rfl, ?_⟩
            exact (((HH2.out.bel.setCell (by simp) _).setCell (by simp) _).setCell (by simp) _)
        · skip
          have hb : upB s true n = true := by
            unfold upB
            rw [ex, if_pos c1]
            simp []
          rw [hb] at Mk
          clear hb ex hx c1 g hy ey od yd
          unfold dcV at *
          go_enter Tryd.func13, Tryd.ntmps13
          go_wp2_with fail
          refine (VV _).mono ?_
          rintro e w1 ⟨rfl, hb1⟩
          have HT1 := R0.step hb1
          have HH1 : Hid (OneR w w1 s p _) := HT1
          clear hb1 R0
          obtain ⟨_, _, a0, a1, a2, r0, r1, r2, fr⟩ := HT1
          go_wp2_with fail
          refine (Mk _).mono ?_
          rintro e w2 ⟨rfl, hb2⟩
          have HT2 := HH1.out.step hb2
          have HH2 : Hid (OneR w w2 s p _) := HT2
          clear hb2 a0 a1 a2 r0 r1 r2 fr
          obtain ⟨_, _, a0, a1, a2, r0, r1, r2, fr⟩ := HT2
          go_wp2
          refine bodyPost_ret (v := .tuple #[.agg #[.string s2, .int .i64 p2, .bool false], .int .i64 kk]) (by simp [results, Tryd.results13, go_sem, *]) rfl ⟨rfl, ?_⟩
          exact (((HH2.out.bel.setCell (by simp) _).setCell (by simp) _).setCell (by simp) _)
  · have e1 : ((((s[n]'hn).toNat : Nat) : Int) == 53) = false := beq_eq_false_iff_ne.mpr (by omega)
    have hb : upB s c n = decide ((53 : Int) < (((s[n]'hn).toNat : Nat) : Int)) := by
      unfold upB
      rw [ex, if_neg c1]
      exact decide_eq_decide.mpr (by omega)
    rw [hb] at Mk
    clear hb ex hx c1 g
    cases c
    all_goals
      unfold dcV at *
      go_enter Tryd.func13, Tryd.ntmps13
      go_wp2_with fail
      refine (VV _).mono ?_
      rintro e w1 ⟨rfl, hb1⟩
      have HT1 := R0.step hb1
      have HH1 : Hid (OneR w w1 s p _) := HT1
      clear hb1 R0
      obtain ⟨_, _, a0, a1, a2, r0, r1, r2, fr⟩ := HT1
      go_wp2_with fail
      refine (Mk _).mono ?_
      rintro e w2 ⟨rfl, hb2⟩
      have HT2 := HH1.out.step hb2
      have HH2 : Hid (OneR w w2 s p _) := HT2
      clear hb2 a0 a1 a2 r0 r1 r2 fr
      obtain ⟨_, _, a0, a1, a2, r0, r1, r2, fr⟩ := HT2
      go_wp2
      refine bodyPost_ret (v := .tuple #[.agg #[.string s2, .int .i64 p2, .bool false], .int .i64 kk]) (by simp [results, Tryd.results13, go_sem, *]) rfl ⟨rfl, ?_⟩
      exact (((HH2.out.bel.setCell (by simp) _).setCell (by simp) _).setCell (by simp) _)

end Go.Proofs.YtladeppjccfbhaaDoor
