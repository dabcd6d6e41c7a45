/-
  The document's Valid, Bounds, Cut, Clamp of widths.
-/
import Derived.Test.YtoabdoognadijaaDoorWdN
namespace Go.Proofs.YtoabdoognadijaaDoor
open Go.RowKit

set_option maxRecDepth 100000 in
set_option maxHeartbeats 1000000 in
theorem rwvalid_yes {w M H L : Int} (h : Wd w M H L) (W : World) :
    Calls Tryd.prog 13 #[.int .i64 w] W fun e w' => e = .returned (.bool true) ∧ w' = W := by
  rcases h with ⟨rfl, rfl, rfl, rfl⟩ | ⟨rfl, rfl, rfl, rfl⟩ | ⟨rfl, rfl, rfl, rfl⟩ | ⟨rfl, rfl, rfl, rfl⟩
  all_goals
    go_enter Tryd.func13, Tryd.ntmps13
    go_wp2
    go_ret
    exact ⟨rfl, rfl⟩
set_option maxRecDepth 100000 in
set_option maxHeartbeats 1000000 in
theorem rwvalid_no {w : Int} (h : Wn w) (W : World) :
    Calls Tryd.prog 13 #[.int .i64 w] W fun e w' => e = .returned (.bool false) ∧ w' = W := by
  obtain ⟨h1, h2, h3, h4⟩ := h
  have p1 : (w == 8) = false := beq_eq_false_iff_ne.mpr h1
  have p2 : (w == 16) = false := beq_eq_false_iff_ne.mpr h2
  have p3 : (w == 32) = false := beq_eq_false_iff_ne.mpr h3
  have p4 : (w == 64) = false := beq_eq_false_iff_ne.mpr h4
  clear h1 h2 h3 h4
  go_enter Tryd.func13, Tryd.ntmps13
  go_wp2
  go_ret
  exact ⟨rfl, rfl⟩
set_option maxRecDepth 100000 in
set_option maxHeartbeats 1000000 in
theorem rwbounds_yes {w M H L : Int} (h : Wd w M H L) (W : World) :
    Calls Tryd.prog 8 #[.int .i64 w] W fun e w' => e = .returned (.tuple #[.int .i64 L, .int .i64 H, .int .u64 M, .int .i64 0]) ∧ w' = W := by
  have VY := fun W => rwvalid_yes h W
  rcases h with ⟨rfl, rfl, rfl, rfl⟩ | ⟨rfl, rfl, rfl, rfl⟩ | ⟨rfl, rfl, rfl, rfl⟩ | ⟨rfl, rfl, rfl, rfl⟩
  all_goals
    go_enter Tryd.func8, Tryd.ntmps8
    go_wp2_with fail
    refine (VY _).mono ?_
    rintro e W ⟨rfl, rfl⟩
    go_wp2
    (try simp only [Exit.inBlock, Exit.then])
    refine bodyPost_ret (results_tmp4 rfl _ _ _) rfl ?_
    first
      | exact ⟨rfl, rfl⟩
      | exact ⟨by kernel_rfl, rfl⟩
set_option maxRecDepth 100000 in
set_option maxHeartbeats 1000000 in
theorem rwbounds_no {w : Int} (h : Wn w) (W : World) :
    Calls Tryd.prog 8 #[.int .i64 w] W fun e w' => e = .returned (.tuple #[.int .i64 0, .int .i64 0, .int .u64 0, .int .i64 6]) ∧ w' = W := by
  have VN := fun W => rwvalid_no h W
  clear h
  go_enter Tryd.func8, Tryd.ntmps8
  go_wp2_with fail
  refine (VN _).mono ?_
  rintro e W ⟨rfl, rfl⟩
  go_wp2
  (try simp only [Exit.inBlock, Exit.then])
  refine bodyPost_ret (results_tmp4 rfl _ _ _) rfl ?_
  exact ⟨rfl, rfl⟩
set_option maxRecDepth 100000 in
set_option maxHeartbeats 1000000 in
theorem rwcut_no {w : Int} (h : Wn w) (v : Int) (W : World) :
    Calls Tryd.prog 10 #[.int .u64 v, .int .i64 w] W fun e w' => e = .returned (.tuple #[.int .u64 0, .int .i64 0, .int .i64 6]) ∧ w' = W := by
  have BN := fun W => rwbounds_no h W
  clear h
  go_enter Tryd.func10, Tryd.ntmps10
  go_wp2_with fail
  refine (BN _).mono ?_
  rintro e W ⟨rfl, rfl⟩
  go_wp2
  go_ret3
  exact ⟨rfl, rfl⟩
set_option maxRecDepth 100000 in
set_option maxHeartbeats 1000000 in
theorem rwclamp_no {w : Int} (h : Wn w) (v : Int) (W : World) :
    Calls Tryd.prog 12 #[.int .i64 v, .int .i64 w] W fun e w' => e = .returned (.tuple #[.int .i64 0, .int .i64 6]) ∧ w' = W := by
  have BN := fun W => rwbounds_no h W
  clear h
  go_enter Tryd.func12, Tryd.ntmps12
  go_wp2_with fail
  refine (BN _).mono ?_
  rintro e W ⟨rfl, rfl⟩
  go_wp2
  go_ret2
  exact ⟨rfl, rfl⟩
set_option maxRecDepth 100000 in
set_option maxHeartbeats 1000000 in
theorem rwunsigned_no {w : Int} (h : Wn w) (s : ByteArray) (b : Int) (W : World) :
    Calls Tryd.prog 18 #[.string s, .int .i64 b, .int .i64 w] W fun e w' => e = .returned (.tuple #[.int .u64 0, .int .i64 6]) ∧ w' = W := by
  have BN := fun W => rwbounds_no h W
  clear h
  go_enter Tryd.func18, Tryd.ntmps18
  go_wp2_with fail
  refine (BN _).mono ?_
  rintro e W ⟨rfl, rfl⟩
  go_wp2
  go_ret2
  exact ⟨rfl, rfl⟩
set_option maxRecDepth 100000 in
set_option maxHeartbeats 1000000 in
theorem rwsigned_no {w : Int} (h : Wn w) (s : ByteArray) (b : Int) (W : World) :
    Calls Tryd.prog 20 #[.string s, .int .i64 b, .int .i64 w] W fun e w' => e = .returned (.tuple #[.int .i64 0, .int .i64 6]) ∧ w' = W := by
  have BN := fun W => rwbounds_no h W
  clear h
  go_enter Tryd.func20, Tryd.ntmps20
  go_wp2_with fail
  refine (BN _).mono ?_
  rintro e W ⟨rfl, rfl⟩
  go_wp2
  go_ret2
  exact ⟨rfl, rfl⟩
set_option maxRecDepth 100000 in
set_option maxHeartbeats 1000000 in
theorem rwtell_no {w : Int} (h : Wn w) (v b : Int) (W : World) :
    Calls Tryd.prog 22 #[.int .u64 v, .int .i64 b, .int .i64 w] W fun e w' => e = .returned (.tuple #[.string ⟨#[]⟩, .int .i64 6]) ∧ w' = W := by
  have BN := fun W => rwbounds_no h W
  clear h
  go_enter Tryd.func22, Tryd.ntmps22
  go_wp2_with fail
  refine (BN _).mono ?_
  rintro e W ⟨rfl, rfl⟩
  go_wp2
  go_ret2
  exact ⟨rfl, rfl⟩
set_option maxRecDepth 100000 in
set_option maxHeartbeats 1000000 in
theorem rwtellsigned_no {w : Int} (h : Wn w) (v b : Int) (W : World) :
    Calls Tryd.prog 24 #[.int .i64 v, .int .i64 b, .int .i64 w] W fun e w' => e = .returned (.tuple #[.string ⟨#[]⟩, .int .i64 6]) ∧ w' = W := by
  have BN := fun W => rwbounds_no h W
  clear h
  go_enter Tryd.func24, Tryd.ntmps24
  go_wp2_with fail
  refine (BN _).mono ?_
  rintro e W ⟨rfl, rfl⟩
  go_wp2
  go_ret2
  exact ⟨rfl, rfl⟩
set_option maxRecDepth 100000 in
set_option maxHeartbeats 1000000 in
theorem rwclamp_yes {w M H L : Int} (h : Wd w M H L) (v : Int) (W : World) :
    Calls Tryd.prog 12 #[.int .i64 v, .int .i64 w] W fun e w' => e = .returned (.tuple #[.int .i64 (nrW L H v), .int .i64 0]) ∧ w' = W := by
  have BY := fun W => rwbounds_yes h W
  have hl := h.low
  have hg := h.ge
  have hLH : L ≤ H := by omega
  clear h hl hg
  by_cases q1 : v < L
  · have HN : Hid (nrW L H v = L) := nrW_low q1
    have q2 : v ≤ H := by omega
    clear hLH
    go_enter Tryd.func12, Tryd.ntmps12
    go_wp2_with fail
    refine (BY _).mono ?_
    rintro e W ⟨rfl, rfl⟩
    go_wp2
    go_ret2
    exact ⟨by rw [HN.out]; rfl, rfl⟩
  · by_cases q2 : H < v
    · have HN : Hid (nrW L H v = H) := nrW_high q1 q2
      clear q1
      go_enter Tryd.func12, Tryd.ntmps12
      go_wp2_with fail
      refine (BY _).mono ?_
      rintro e W ⟨rfl, rfl⟩
      go_wp2
      go_ret2
      exact ⟨by rw [HN.out]; rfl, rfl⟩
    · have HN : Hid (nrW L H v = v) := nrW_in q1 q2
      have q3 : L ≤ v := by omega
      have q4 : v ≤ H := by omega
      clear q1 q2 hLH
      go_enter Tryd.func12, Tryd.ntmps12
      go_wp2_with fail
      refine (BY _).mono ?_
      rintro e W ⟨rfl, rfl⟩
      go_wp2
      go_ret2
      exact ⟨by rw [HN.out]; rfl, rfl⟩
set_option maxRecDepth 100000 in
set_option maxHeartbeats 1000000 in
theorem rwcut_yes {w M H L : Int} (h : Wd w M H L) (v : Nat) (hv : v < 18446744073709551616) (W : World) :
    Calls Tryd.prog 10 #[.int .u64 (v : Int), .int .i64 w] W fun e w' => e = .returned (.tuple #[.int .u64 ((v : Int) % (M + 1)), .int .i64 (sgW M H ((v : Int) % (M + 1))), .int .i64 0]) ∧ w' = W := by
  have BY := fun W => rwbounds_yes h W
  have HK := mask_wd h v hv
  rcases h with ⟨rfl, rfl, rfl, rfl⟩ | ⟨rfl, rfl, rfl, rfl⟩ | ⟨rfl, rfl, rfl, rfl⟩ | ⟨rfl, rfl, rfl, rfl⟩
  · have hU : (v : Int) % (255 + 1) = (v : Int) % 256 := by rw [show (255 + 1 : Int) = 256 from rfl]
    rw [hU] at HK ⊢
    clear hU
    obtain ⟨U, hU, hb⟩ : ∃ U : Nat, (v : Int) % 256 = (U : Int) ∧ U < 256 := ⟨v % 256, by omega, by omega⟩
    rw [hU] at HK ⊢
    clear hU hv
    by_cases q : 127 < (U : Int)
    · have HS : Hid (sgW 255 127 (U : Int) = wrap64 (IntKind.u64.wrap (IntKind.u64.wrap ((U : Int) - 255) - 1))) := by show _ = _; unfold sgW; rw [if_pos q, IntKind.wrap_u64, IntKind.wrap_u64]; unfold wrap64; omega
      clear hb
      go_enter Tryd.func10, Tryd.ntmps10
      go_wp2_with fail
      refine (BY _).mono ?_
      rintro e W ⟨rfl, rfl⟩
      go_wp2
      go_ret3
      exact ⟨by rw [HS.out]; rfl, rfl⟩
    · have HS : Hid (sgW 255 127 (U : Int) = (U : Int)) := by show _ = _; unfold sgW; rw [if_neg q]
      clear hb
      go_enter Tryd.func10, Tryd.ntmps10
      go_wp2_with fail
      refine (BY _).mono ?_
      rintro e W ⟨rfl, rfl⟩
      go_wp2
      go_ret3
      exact ⟨by rw [HS.out]; rfl, rfl⟩
  · have hU : (v : Int) % (65535 + 1) = (v : Int) % 65536 := by rw [show (65535 + 1 : Int) = 65536 from rfl]
    rw [hU] at HK ⊢
    clear hU
    obtain ⟨U, hU, hb⟩ : ∃ U : Nat, (v : Int) % 65536 = (U : Int) ∧ U < 65536 := ⟨v % 65536, by omega, by omega⟩
    rw [hU] at HK ⊢
    clear hU hv
    by_cases q : 32767 < (U : Int)
    · have HS : Hid (sgW 65535 32767 (U : Int) = wrap64 (IntKind.u64.wrap (IntKind.u64.wrap ((U : Int) - 65535) - 1))) := by show _ = _; unfold sgW; rw [if_pos q, IntKind.wrap_u64, IntKind.wrap_u64]; unfold wrap64; omega
      clear hb
      go_enter Tryd.func10, Tryd.ntmps10
      go_wp2_with fail
      refine (BY _).mono ?_
      rintro e W ⟨rfl, rfl⟩
      go_wp2
      go_ret3
      exact ⟨by rw [HS.out]; rfl, rfl⟩
    · have HS : Hid (sgW 65535 32767 (U : Int) = (U : Int)) := by show _ = _; unfold sgW; rw [if_neg q]
      clear hb
      go_enter Tryd.func10, Tryd.ntmps10
      go_wp2_with fail
      refine (BY _).mono ?_
      rintro e W ⟨rfl, rfl⟩
      go_wp2
      go_ret3
      exact ⟨by rw [HS.out]; rfl, rfl⟩
  · have hU : (v : Int) % (4294967295 + 1) = (v : Int) % 4294967296 := by rw [show (4294967295 + 1 : Int) = 4294967296 from rfl]
    rw [hU] at HK ⊢
    clear hU
    obtain ⟨U, hU, hb⟩ : ∃ U : Nat, (v : Int) % 4294967296 = (U : Int) ∧ U < 4294967296 := ⟨v % 4294967296, by omega, by omega⟩
    rw [hU] at HK ⊢
    clear hU hv
    by_cases q : 2147483647 < (U : Int)
    · have HS : Hid (sgW 4294967295 2147483647 (U : Int) = wrap64 (IntKind.u64.wrap (IntKind.u64.wrap ((U : Int) - 4294967295) - 1))) := by show _ = _; unfold sgW; rw [if_pos q, IntKind.wrap_u64, IntKind.wrap_u64]; unfold wrap64; omega
      clear hb
      go_enter Tryd.func10, Tryd.ntmps10
      go_wp2_with fail
      refine (BY _).mono ?_
      rintro e W ⟨rfl, rfl⟩
      go_wp2
      go_ret3
      exact ⟨by rw [HS.out]; rfl, rfl⟩
    · have HS : Hid (sgW 4294967295 2147483647 (U : Int) = (U : Int)) := by show _ = _; unfold sgW; rw [if_neg q]
      clear hb
      go_enter Tryd.func10, Tryd.ntmps10
      go_wp2_with fail
      refine (BY _).mono ?_
      rintro e W ⟨rfl, rfl⟩
      go_wp2
      go_ret3
      exact ⟨by rw [HS.out]; rfl, rfl⟩
  · have hU : (v : Int) % (18446744073709551615 + 1) = (v : Int) % 18446744073709551616 := by rw [show (18446744073709551615 + 1 : Int) = 18446744073709551616 from rfl]
    rw [hU] at HK ⊢
    clear hU
    obtain ⟨U, hU, hb⟩ : ∃ U : Nat, (v : Int) % 18446744073709551616 = (U : Int) ∧ U < 18446744073709551616 := ⟨v % 18446744073709551616, by omega, by omega⟩
    rw [hU] at HK ⊢
    clear hU hv
    by_cases q : 9223372036854775807 < (U : Int)
    · have HS : Hid (sgW 18446744073709551615 9223372036854775807 (U : Int) = wrap64 (IntKind.u64.wrap (IntKind.u64.wrap ((U : Int) - 18446744073709551615) - 1))) := by show _ = _; unfold sgW; rw [if_pos q, IntKind.wrap_u64, IntKind.wrap_u64]; unfold wrap64; omega
      clear hb
      go_enter Tryd.func10, Tryd.ntmps10
      go_wp2_with fail
      refine (BY _).mono ?_
      rintro e W ⟨rfl, rfl⟩
      go_wp2
      go_ret3
      exact ⟨by rw [HS.out]; rfl, rfl⟩
    · have HS : Hid (sgW 18446744073709551615 9223372036854775807 (U : Int) = (U : Int)) := by show _ = _; unfold sgW; rw [if_neg q]
      clear hb
      go_enter Tryd.func10, Tryd.ntmps10
      go_wp2_with fail
      refine (BY _).mono ?_
      rintro e W ⟨rfl, rfl⟩
      go_wp2
      go_ret3
      exact ⟨by rw [HS.out]; rfl, rfl⟩
end Go.Proofs.YtoabdoognadijaaDoor
