/-
  What the document's Round and Of of layer 17 answer.
-/
import Derived.Test.YtkmnkogbafhfdaaDoorHxD
namespace Go.Proofs.YtkmnkogbafhfdaaDoor
open Go.RowKit

theorem rsigned_z {s : Int} {g n f T : Nat} {L : Int} (hz : Fz s g n f T L) {x : Nat} (h : x < g) (c : Bool) (w : World) : Calls Tryd.prog 22 #[.bool c, .int .u64 (x : Int), .int .i64 s] w fun e w' => e = .returned (.int .u64 ((sgd g c x : Nat) : Int)) ∧ w' = w := by
  rcases hz with ⟨rfl, rfl, rfl, rfl, rfl, rfl⟩ | ⟨rfl, rfl, rfl, rfl, rfl, rfl⟩
  · exact rsigned_32 h c w
  · exact rsigned_64 h c w
/-- What the document's Round answers. -/
def dxV (g : Nat) (c : Bool) : Option (Nat × Bool) → Value
  | none => .tuple #[.int .u64 0, .int .i64 1]
  | some p => .tuple #[.int .u64 ((sgd g c p.1 : Nat) : Int), .int .i64 (if p.2 then 4 else 0)]
set_option maxRecDepth 100000 in
set_option maxHeartbeats 1000000 in
theorem rround_no {s : Int} (h : Sn s) (c more : Bool) (m e : Int) (w : World) : Calls Tryd.prog 12 #[.bool c, .int .u64 m, .int .i64 e, .bool more, .int .i64 s] w fun x w' => x = .returned (.tuple #[.int .u64 0, .int .i64 5]) ∧ Below w.heap.size w w' := by
  have H := fun W => rsize_no h W
  go_enter Tryd.func12, Tryd.ntmps12
  go_wp2_with fail
  refine (H _).mono ?_
  rintro x w ⟨rfl, rfl⟩
  go_wp2
  go_ret2
  exact ⟨rfl, Below.refl _ _⟩
set_option maxRecDepth 100000 in
set_option maxHeartbeats 2000000 in
theorem rround_plain {s : Int} {g n f T : Nat} {L : Int} (hz : Fz s g n f T L) (c : Bool) {m : Nat} (hm : m < 18446744073709551616) (e : Int) (w : World) : Calls Tryd.prog 12 #[.bool c, .int .u64 (m : Int), .int .i64 e, .bool false, .int .i64 s] w fun x w' => x = .returned (dxV g c (hxA f T L m e false)) ∧ Below w.heap.size w w' := by
  obtain ⟨V, hV⟩ : ∃ V, dxV g c (hxA f T L m e false) = V := ⟨_, rfl⟩
  rw [hV]
  have HV : Hid (dxV g c (hxA f T L m e false) = V) := hV
  clear hV
  obtain ⟨f1, f2, t1, b1, l1, l2, tg, _⟩ := fz_facts hz
  have HZ : Hid (Fz s g n f T L) := hz
  have HC : Hid (∀ x ov, NrO f T L m 1 (clK 3000 e) 0 x ov → x < g ∧ hxA f T L m e false = some (x, ov)) := fun x ov h => ⟨Nat.lt_of_le_of_lt h.le tg, by rw [← hxA_cl f1 (by omega) b1 l1 l2 (show m < 2 ^ 64 from hm) (show (2000 : Int) ≤ 3000 by decide) e false]; exact hx_plain f1 (by omega) h⟩
  have H1 := fun W => rsize_z15 hz W
  have H2 := fun W => dsmall_word m hm W
  have HM : Hid (m < 18446744073709551616) := hm
  clear hz hm f1 f2 t1 b1 l1 l2 tg
  go_enter Tryd.func12, Tryd.ntmps12
  go_wp2_with fail
  refine (H1 _).mono ?_
  rintro x w ⟨rfl, rfl⟩
  go_wp2_with fail
  refine (H2 _).mono ?_
  rintro x w1 ⟨v1, rfl, n1, hb1⟩
  have B1 : Hid (Below w.heap.size w w1) := hb1
  have A1 := at_ok HZ.out ((fits_word17 HM.out).up (by omega)) e (.inr (.inl rfl)) n1
  clear n1 hb1
  go_wp2_with fail
  refine A1.mono ?_
  rintro x w2 ⟨x, ov, rfl, nr, hb⟩
  have B2 : Hid (Below w.heap.size w w2) := B1.out.trans (hb.mono B1.out.size)
  obtain ⟨xg, ha⟩ := HC.out x ov nr
  have VV : Hid (dxV g c (some (x, ov)) = V) := (by rw [← ha]; exact HV.out)
  have S := fun W => rsigned_z HZ.out xg c W
  clear nr hb ha A1 xg HC
  cases ov
  · go_wp2_with fail
    refine (S _).mono ?_
    rintro x w2 ⟨rfl, rfl⟩
    go_wp2
    go_ret2
    exact ⟨congrArg Ending.returned VV.out, B2.out⟩
  · go_wp2_with fail
    refine (S _).mono ?_
    rintro x w2 ⟨rfl, rfl⟩
    go_wp2
    go_ret2
    exact ⟨congrArg Ending.returned VV.out, B2.out⟩
set_option maxRecDepth 100000 in
set_option maxHeartbeats 2000000 in
theorem rround_more {s : Int} {g n f T : Nat} {L : Int} (hz : Fz s g n f T L) (c : Bool) {m : Nat} (hm : m < 18446744073709551616) (e : Int) (w : World) : Calls Tryd.prog 12 #[.bool c, .int .u64 (m : Int), .int .i64 e, .bool true, .int .i64 s] w fun x w' => x = .returned (dxV g c (hxA f T L m e true)) ∧ Below w.heap.size w w' := by
  obtain ⟨V, hV⟩ : ∃ V, dxV g c (hxA f T L m e true) = V := ⟨_, rfl⟩
  rw [hV]
  have HV : Hid (dxV g c (hxA f T L m e true) = V) := hV
  clear hV
  obtain ⟨f1, f2, t1, b1, l1, l2, tg, _⟩ := fz_facts hz
  have HZ : Hid (Fz s g n f T L) := hz
  have HC : Hid (∀ x ov y past, NrO f T L m 1 (clK 3000 e) 1 x ov → NrO f T L (m + 1) 1 (clK 3000 e) (-1) y past → x < g ∧ (x = y → ov = past ∧ hxA f T L m e true = some (x, ov)) ∧ (x ≠ y → hxA f T L m e true = none)) := fun x ov y past h k => by
    refine ⟨Nat.lt_of_le_of_lt h.le tg, ?_⟩
    rw [← hxA_cl f1 (by omega) b1 l1 l2 (show m < 2 ^ 64 from hm) (show (2000 : Int) ≤ 3000 by decide) e true]
    exact hx_more f1 (by omega) h k
  have H1 := fun W => rsize_z15 hz W
  have H2 := fun W => dsmall_word m hm W
  have HM : Hid (m < 18446744073709551616) := hm
  clear hz hm f1 f2 t1 b1 l1 l2 tg
  go_enter Tryd.func12, Tryd.ntmps12
  go_wp2_with fail
  refine (H1 _).mono ?_
  rintro x w ⟨rfl, rfl⟩
  go_wp2_with fail
  refine (H2 _).mono ?_
  rintro x w1 ⟨v1, rfl, n1, hb1⟩
  have B1 : Hid (Below w.heap.size w w1) := hb1
  have A1 := at_ok HZ.out ((fits_word17 HM.out).up (by omega)) e (.inr (.inl rfl)) n1
  clear n1 hb1
  go_wp2_with fail
  refine A1.mono ?_
  rintro x w2 ⟨x0, ov0, rfl, _, hb⟩
  have B2 : Hid (Below w.heap.size w w2) := B1.out.trans (hb.mono B1.out.size)
  clear hb A1
  go_wp2_with fail
  refine (H2 _).mono ?_
  rintro x w3 ⟨v3, rfl, n3, hb⟩
  have B3 : Hid (Below w.heap.size w w3) := B2.out.trans (hb.mono B2.out.size)
  have N3 : Hid (Big.D.NatV w3 v3 m) := n3
  clear hb n3
  have A2 := at_ok HZ.out ((fits_word17 HM.out).up (by omega)) e (.inr (.inr rfl)) N3.out
  go_wp2_with fail
  refine A2.mono ?_
  rintro x w4 ⟨x, ov, rfl, nr, hb⟩
  have B4 : Hid (Below w.heap.size w w4) := B3.out.trans (hb.mono B3.out.size)
  have N4 : Hid (Big.D.NatV (w4.alloc (.cells #[.int .u64 1] 24)) v3 m) := (N3.out.below hb).below ((Below.refl _ _).alloc (Nat.le_refl _) _)
  have B5 : Hid (Below w.heap.size w (w4.alloc (.cells #[.int .u64 1] 24))) := B4.out.alloc B4.out.size _
  have NR : Hid (NrO f T L m 1 (clK 3000 e) 1 x ov) := nr
  have AD := dadd_new N4.out (dnat_one w4) ((fits_word17 HM.out).up (by omega)) (fits_one.up (by omega))
  clear nr hb A2
  go_wp2_with fail
  refine AD.mono ?_
  rintro r w6 ⟨v6, rfl, n6, hb⟩
  have B6 : Hid (Below w.heap.size w w6) := B5.out.trans (hb.mono B5.out.size)
  have A3 := at_ok HZ.out (X := m + 1) ((fits_word17 HM.out).sum (fits_one.up (by omega))) e (.inl rfl) n6.nat
  clear hb n6 AD
  go_wp2_with fail
  refine A3.mono ?_
  rintro r w7 ⟨y, past, rfl, nr, hb⟩
  have B7 : Hid (Below w.heap.size w w7) := B6.out.trans (hb.mono B6.out.size)
  obtain ⟨xg, h1, h2⟩ := HC.out x ov y past NR.out nr
  clear nr hb A3 HC NR
  by_cases z : x = y
  · subst z
    obtain ⟨rfl, ha⟩ := h1 rfl
    have VV : Hid (dxV g c (some (x, ov)) = V) := (by rw [← ha]; exact HV.out)
    have S := fun W => rsigned_z HZ.out xg c W
    clear h1 h2 ha xg
    cases ov
    · go_wp2_with fail
      refine (S _).mono ?_
      rintro x w2 ⟨rfl, rfl⟩
      go_wp2
      go_ret2
      exact ⟨congrArg Ending.returned VV.out, B7.out⟩
    · go_wp2_with fail
      refine (S _).mono ?_
      rintro x w2 ⟨rfl, rfl⟩
      go_wp2
      go_ret2
      exact ⟨congrArg Ending.returned VV.out, B7.out⟩
  · have VV : Hid (dxV g c none = V) := (by rw [← h2 z]; exact HV.out)
    have zz : ((x : Int) != (y : Int)) = true := by rw [bne_iff_ne]; omega
    clear h1 h2 xg z
    go_wp2
    go_ret2
    exact ⟨congrArg Ending.returned VV.out, B7.out⟩
theorem rround_ok {s : Int} {g n f T : Nat} {L : Int} (hz : Fz s g n f T L) (c : Bool) {m : Nat} (hm : m < 18446744073709551616) (e : Int) (more : Bool) (w : World) : Calls Tryd.prog 12 #[.bool c, .int .u64 (m : Int), .int .i64 e, .bool more, .int .i64 s] w fun x w' => x = .returned (dxV g c (hxA f T L m e more)) ∧ Below w.heap.size w w' := by
  cases more
  · exact rround_plain hz c hm e w
  · exact rround_more hz c hm e w
set_option maxRecDepth 100000 in
set_option maxHeartbeats 1000000 in
theorem rof_no {s : Int} (h : Sn s) (c : Bool) (k : Int) (d : ByteArray) (q : Int) (u : Bool) (m e : Int) (r : Bool) (w : World) : Calls Tryd.prog 6 #[ptV c k d q u m e r, .int .i64 s] w fun x w' => x = .returned (.tuple #[.int .u64 0, .int .i64 5]) ∧ Below w.heap.size w w' := by
  have H := fun W => rsize_no h W
  have B0 : Hid (Below w.heap.size w (w.alloc (.cells #[.bool c, .int .i64 k, .string d, .int .i64 q, .bool u, .int .u64 m, .int .i64 e, .bool r] 26))) := (Below.refl _ _).alloc (Nat.le_refl _) _
  unfold ptV
  go_enter Tryd.func6, Tryd.ntmps6
  go_wp2_with fail
  refine (H _).mono ?_
  rintro x w1 ⟨rfl, rfl⟩
  go_wp2
  go_ret2
  exact ⟨rfl, B0.out⟩
set_option maxRecDepth 100000 in
set_option maxHeartbeats 1000000 in
theorem rof_kind {s : Int} {g n f T : Nat} {L : Int} (hz : Fz s g n f T L) (c : Bool) {k : Int} (hk : k ≠ 2) (d : ByteArray) (q : Int) (u : Bool) (m e : Int) (r : Bool) (w : World) : Calls Tryd.prog 6 #[ptV c k d q u m e r, .int .i64 s] w fun x w' => x = .returned (.tuple #[.int .u64 0, .int .i64 1]) ∧ Below w.heap.size w w' := by
  have H := fun W => rsize_z15 hz W
  have q2 : (k != 2) = true := by simpa using hk
  have B0 : Hid (Below w.heap.size w (w.alloc (.cells #[.bool c, .int .i64 k, .string d, .int .i64 q, .bool u, .int .u64 m, .int .i64 e, .bool r] 26))) := (Below.refl _ _).alloc (Nat.le_refl _) _
  clear hz hk
  unfold ptV
  go_enter Tryd.func6, Tryd.ntmps6
  go_wp2_with fail
  refine (H _).mono ?_
  rintro x w1 ⟨rfl, rfl⟩
  go_wp2
  go_ret2
  exact ⟨rfl, B0.out⟩
set_option maxRecDepth 100000 in
set_option maxHeartbeats 1000000 in
theorem rof_ok {s : Int} {g n f T : Nat} {L : Int} (hz : Fz s g n f T L) (c : Bool) (d : ByteArray) (q : Int) (u : Bool) {m : Nat} (hm : m < 18446744073709551616) (e : Int) (r : Bool) (w : World) : Calls Tryd.prog 6 #[ptV c 2 d q u (m : Int) e r, .int .i64 s] w fun x w' => x = .returned (dxV g c (hxA f T L m e r)) ∧ Below w.heap.size w w' := by
  have H := fun W => rsize_z15 hz W
  have HR := fun W => rround_ok hz c hm e r W
  have B0 : Hid (Below w.heap.size w (w.alloc (.cells #[.bool c, .int .i64 2, .string d, .int .i64 q, .bool u, .int .u64 (m : Int), .int .i64 e, .bool r] 26))) := (Below.refl _ _).alloc (Nat.le_refl _) _
  obtain ⟨V1, V2, hV⟩ : ∃ V1 V2, dxV g c (hxA f T L m e r) = .tuple #[V1, V2] := by
    cases hxA f T L m e r with
    | none => exact ⟨_, _, rfl⟩
    | some p => exact ⟨_, _, rfl⟩
  rw [hV] at HR ⊢
  clear hz hm hV
  unfold ptV
  go_enter Tryd.func6, Tryd.ntmps6
  go_wp2_with fail
  refine (H _).mono ?_
  rintro x w1 ⟨rfl, rfl⟩
  go_wp2_with fail
  refine (HR _).mono ?_
  rintro x w2 ⟨rfl, hb⟩
  have B2 : Hid (Below w.heap.size w w2) := B0.out.trans (hb.mono B0.out.size)
  clear hb
  go_wp2
  go_ret2
  exact ⟨rfl, B2.out⟩
end Go.Proofs.YtkmnkogbafhfdaaDoor
