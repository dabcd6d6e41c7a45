/-
  What the document's rounded, Ratio and Whole of layer 12 answer.
-/
import Derived.Test.YtealnajogkeckaaDoorRnI
namespace Go.Proofs.YtealnajogkeckaaDoor
open Go.RowKit

/-- Bits and an error's number, by the answer. -/
def anR (g : Nat) (c : Bool) (p : Nat × Bool) : Value := .tuple #[.int .u64 ((sgd g c p.1 : Nat) : Int), .int .i64 (if p.2 then 4 else 0)]
theorem rsize_z {s : Int} {g n f T : Nat} {L : Int} (h : Fz s g n f T L) (w : World) : Calls Tryd.prog 29 #[.int .i64 s] w fun e w' => e = .returned (.bool true) ∧ w' = w := by
  rcases h with ⟨rfl, rfl, rfl, rfl, rfl, rfl⟩ | ⟨rfl, rfl, rfl, rfl, rfl, rfl⟩
  · exact rsize_32 w
  · exact rsize_64 w
theorem rsigned_z {s : Int} {g n f T : Nat} {L : Int} (h : Fz s g n f T L) {x : Nat} (hx : x ≤ T * 2 ^ f) (c : Bool) (w : World) : Calls Tryd.prog 30 #[.bool c, .int .u64 (x : Int), .int .i64 s] w fun e w' => e = .returned (.int .u64 ((sgd g c x : Nat) : Int)) ∧ w' = w := by
  rcases h with ⟨rfl, rfl, rfl, rfl, rfl, rfl⟩ | ⟨rfl, rfl, rfl, rfl, rfl, rfl⟩
  · exact rsigned_32 (by omega) c w
  · exact rsigned_64 (by omega) c w
set_option maxRecDepth 100000 in
set_option maxHeartbeats 1000000 in
theorem rround_ok {s : Int} {g n' f T : Nat} {L : Int} (hz : Fz s g n' f T L) {w : World} {vn vd : Value} {X Y : Nat} {e : Int} (c more : Bool) (hn : Big.NatV w vn X) (hd : Big.NatV w vd Y) (fX : Fits 256 X) (fY : Fits 256 Y) (y0 : Y ≠ 0) : Calls Tryd.prog 36 #[.int .i64 s, .bool c, vn, vd, .int .i64 e, .bool more] w fun x w' => x = .returned (anR g c (rdA f T L X Y e more)) ∧ Below w.heap.size w w' := by
  have hf : 0 < f ∧ f ≤ 52 ∧ 2 ≤ T ∧ T ≤ 2047 ∧ L ≤ 0 ∧ -1074 ≤ L := by rcases hz with ⟨_, _, _, h, h', h''⟩ | ⟨_, _, _, h, h', h''⟩ <;> omega
  obtain ⟨f1, f2, f3, f4, f5, f6⟩ := hf
  have en := rdA_end (f := f) (T := T) (L := L) (n := X) (d := Y) (e := e) (more := more) (by omega)
  have bX := bl_fits fX
  have bY := bl_fits fY
  obtain ⟨ao, m, cp, rfl, hm0⟩ := big_slice hn
  by_cases z : X = 0 ∨ e < -20000
  · have hA : rdA f T L X Y e more = (0, false) := by
      rcases z with z | z
      · unfold rdA; rw [if_pos z]
      · exact rdA_low f1 (by omega) more y0 (bl_lt X) (by omega)
    have SG := fun W => rsigned_z hz (x := 0) (Nat.zero_le _) c W
    rw [show ((0 : Nat) : Int) = 0 from rfl] at SG
    have eA : anR g c (rdA f T L X Y e more) = .tuple #[.int .u64 ((sgd g c 0 : Nat) : Int), .int .i64 0] := by rw [hA]; rfl
    rw [eA]
    generalize sgd g c 0 = y at *
    have zz : m = 0 ∨ (((m : Int) == 0) = false ∧ e < -20000) := by
      by_cases q : m = 0
      · exact .inl q
      · refine .inr ⟨by simp; omega, ?_⟩
        rcases z with z | z
        · exact absurd (hm0.2 z) q
        · exact z
    clear hA eA en hz hn hd fX fY y0 hm0 z bX bY f1 f2 f3 f4 f5 f6
    rcases zz with rfl | ⟨z1, z2⟩
    · go_enter Tryd.func36, Tryd.ntmps36
      go_wp2_with fail
      refine (SG _).mono ?_
      rintro x wz ⟨rfl, rfl⟩
      go_wp2
      go_ret2
      exact ⟨rfl, Below.refl _ _⟩
    · go_enter Tryd.func36, Tryd.ntmps36
      go_wp2_with fail
      refine (SG _).mono ?_
      rintro x wz ⟨rfl, rfl⟩
      go_wp2
      go_ret2
      exact ⟨rfl, Below.refl _ _⟩
  · have x0 : X ≠ 0 := fun q => z (.inl q)
    have m0 : ((m : Int) == 0) = false := by
      have : m ≠ 0 := fun q => x0 (hm0.1 q)
      simp; omega
    have z2 : ¬ e < -20000 := fun q => z (.inr q)
    have TI := fun W => rinf_z hz W
    by_cases k : 20000 < e
    · have hA : rdA f T L X Y e more = (T * 2 ^ f, true) := rdA_high f1 (by omega) more x0 y0 (bl_lt Y) (by omega)
      have SG := fun W => rsigned_z hz (x := T * 2 ^ f) (Nat.le_refl _) c W
      have eA : anR g c (rdA f T L X Y e more) = .tuple #[.int .u64 ((sgd g c (T * 2 ^ f) : Nat) : Int), .int .i64 4] := by rw [hA]; rfl
      rw [eA]
      generalize sgd g c (T * 2 ^ f) = y at *
      generalize T * 2 ^ f = t at *
      clear hA eA en hz hn hd fX fY y0 hm0 z bX bY f1 f2 f3 f4 f5 f6 x0
      go_enter Tryd.func36, Tryd.ntmps36
      go_wp2_with fail
      refine (TI _).mono ?_
      rintro x wz ⟨rfl, rfl⟩
      go_wp2_with fail
      refine (SG _).mono ?_
      rintro x wy ⟨rfl, rfl⟩
      go_wp2
      go_ret2
      exact ⟨rfl, Below.refl _ _⟩
    · have TF := rfrac_ok (e := e) hz more hn hd fX fY x0 y0 (by omega) (by omega)
      have SG := fun W => rsigned_z hz en.1 c W
      unfold anR
      generalize (rdA f T L X Y e more).1 = b at *
      generalize (rdA f T L X Y e more).2 = fl at *
      generalize sgd g c b = y at *
      generalize T * 2 ^ f = t at *
      have k2 : e ≤ 20000 := by omega
      clear en hz hn hd fX fY y0 hm0 z bX bY f1 f2 f3 f4 f5 f6 x0 k
      cases fl
      · go_enter Tryd.func36, Tryd.ntmps36
        go_wp2_with fail
        refine (TI _).mono ?_
        rintro x wz ⟨rfl, rfl⟩
        go_wp2_with fail
        refine TF.mono ?_
        rintro x wy ⟨rfl, by1⟩
        have BY : Hid (Below wz.heap.size wz wy) := by1
        clear by1
        go_wp2_with fail
        refine (SG _).mono ?_
        rintro x wv ⟨rfl, rfl⟩
        go_wp2
        go_ret2
        exact ⟨rfl, BY.out⟩
      · go_enter Tryd.func36, Tryd.ntmps36
        go_wp2_with fail
        refine (TI _).mono ?_
        rintro x wz ⟨rfl, rfl⟩
        go_wp2_with fail
        refine TF.mono ?_
        rintro x wy ⟨rfl, by1⟩
        have BY : Hid (Below wz.heap.size wz wy) := by1
        clear by1
        go_wp2_with fail
        refine (SG _).mono ?_
        rintro x wv ⟨rfl, rfl⟩
        go_wp2
        go_ret2
        exact ⟨rfl, BY.out⟩
set_option maxRecDepth 100000 in
set_option maxHeartbeats 1000000 in
theorem rratio_no {s : Int} (h : Sn s) (c : Bool) (e : Int) {w : World} {ao : Option Addr} {n cn bn on : Nat} {F : Nat → Nat} (S : Sl w ao n cn bn on F) {bo : Option Addr} {m cm bm om : Nat} {G : Nat → Nat} (S' : Sl w bo m cm bm om G) : Calls Tryd.prog 11 #[.int .i64 s, .bool c, .slice ao n cn, .slice bo m cm, .int .i64 e] w fun x w' => x = .returned (.tuple #[.int .u64 0, .int .i64 5]) ∧ Below w.heap.size w w' := by
  have V1 := rvalid_any S
  have V2 := rvalid_any S'
  have HS := fun W => rsize_no h W
  generalize verr F n = k at *
  generalize verr G m = k' at *
  clear S S' h
  go_enter Tryd.func11, Tryd.ntmps11
  go_wp2_with fail
  refine V1.mono ?_
  rintro x w1 ⟨rfl, rfl⟩
  go_wp2_with fail
  refine V2.mono ?_
  rintro x w2 ⟨rfl, rfl⟩
  go_wp2_with fail
  refine (HS _).mono ?_
  rintro x w3 ⟨rfl, rfl⟩
  go_wp2
  go_ret2
  exact ⟨rfl, Below.refl _ _⟩
set_option maxRecDepth 100000 in
set_option maxHeartbeats 1000000 in
theorem rratio_bad1 {s : Int} {g n' f T : Nat} {L : Int} (hz : Fz s g n' f T L) (c : Bool) (e : Int) {w : World} {ao : Option Addr} {n cn bn on : Nat} {F : Nat → Nat} (S : Sl w ao n cn bn on F) {bo : Option Addr} {m cm bm om : Nat} {G : Nat → Nat} (S' : Sl w bo m cm bm om G) (h : verr F n ≠ 0) : Calls Tryd.prog 11 #[.int .i64 s, .bool c, .slice ao n cn, .slice bo m cm, .int .i64 e] w fun x w' => x = .returned (.tuple #[.int .u64 0, .int .i64 (verr F n : Int)]) ∧ Below w.heap.size w w' := by
  have V1 := rvalid_any S
  have V2 := rvalid_any S'
  have HS := fun W => rsize_z hz W
  have k0 : (((verr F n : Nat) : Int) == 0) = false := by simp; exact h
  generalize verr F n = k at *
  generalize verr G m = k' at *
  clear S S' h hz
  go_enter Tryd.func11, Tryd.ntmps11
  go_wp2_with fail
  refine V1.mono ?_
  rintro x w1 ⟨rfl, rfl⟩
  go_wp2_with fail
  refine V2.mono ?_
  rintro x w2 ⟨rfl, rfl⟩
  go_wp2_with fail
  refine (HS _).mono ?_
  rintro x w3 ⟨rfl, rfl⟩
  go_wp2
  go_ret2
  exact ⟨rfl, Below.refl _ _⟩
set_option maxRecDepth 100000 in
set_option maxHeartbeats 1000000 in
theorem rratio_bad2 {s : Int} {g n' f T : Nat} {L : Int} (hz : Fz s g n' f T L) (c : Bool) (e : Int) {w : World} {ao : Option Addr} {n cn bn on : Nat} {F : Nat → Nat} (S : Sl w ao n cn bn on F) {bo : Option Addr} {m cm bm om : Nat} {G : Nat → Nat} (S' : Sl w bo m cm bm om G) (h : verr F n = 0) (h' : verr G m ≠ 0) : Calls Tryd.prog 11 #[.int .i64 s, .bool c, .slice ao n cn, .slice bo m cm, .int .i64 e] w fun x w' => x = .returned (.tuple #[.int .u64 0, .int .i64 (verr G m : Int)]) ∧ Below w.heap.size w w' := by
  have V1 := rvalid_any S
  have V2 := rvalid_any S'
  rw [h, show ((0 : Nat) : Int) = 0 from rfl] at V1
  have HS := fun W => rsize_z hz W
  have k0 : (((verr G m : Nat) : Int) == 0) = false := by simp; exact h'
  generalize verr G m = k' at *
  clear S S' h hz h'
  go_enter Tryd.func11, Tryd.ntmps11
  go_wp2_with fail
  refine V1.mono ?_
  rintro x w1 ⟨rfl, rfl⟩
  go_wp2_with fail
  refine V2.mono ?_
  rintro x w2 ⟨rfl, rfl⟩
  go_wp2_with fail
  refine (HS _).mono ?_
  rintro x w3 ⟨rfl, rfl⟩
  go_wp2
  go_ret2
  exact ⟨rfl, Below.refl _ _⟩
set_option maxRecDepth 100000 in
set_option maxHeartbeats 1000000 in
theorem rratio_zero {s : Int} {g n' f T : Nat} {L : Int} (hz : Fz s g n' f T L) (c : Bool) (e : Int) {w : World} {ao : Option Addr} {n cn bn on : Nat} {F : Nat → Nat} (S : Sl w ao n cn bn on F) {bo : Option Addr} {m cm bm om : Nat} {G : Nat → Nat} (S' : Sl w bo m cm bm om G) (h : verr F n = 0) (h' : verr G m = 0) (m0 : m = 0) : Calls Tryd.prog 11 #[.int .i64 s, .bool c, .slice ao n cn, .slice bo m cm, .int .i64 e] w fun x w' => x = .returned (.tuple #[.int .u64 0, .int .i64 10]) ∧ Below w.heap.size w w' := by
  have V1 := rvalid_any S
  have V2 := rvalid_any S'
  rw [h, show ((0 : Nat) : Int) = 0 from rfl] at V1
  rw [h', show ((0 : Nat) : Int) = 0 from rfl] at V2
  have HS := fun W => rsize_z hz W
  clear S S' h hz h'
  subst m0
  go_enter Tryd.func11, Tryd.ntmps11
  go_wp2_with fail
  refine V1.mono ?_
  rintro x w1 ⟨rfl, rfl⟩
  go_wp2_with fail
  refine V2.mono ?_
  rintro x w2 ⟨rfl, rfl⟩
  go_wp2_with fail
  refine (HS _).mono ?_
  rintro x w3 ⟨rfl, rfl⟩
  go_wp2
  go_ret2
  exact ⟨rfl, Below.refl _ _⟩
set_option maxRecDepth 100000 in
set_option maxHeartbeats 1000000 in
theorem rratio_far {s : Int} {g n' f T : Nat} {L : Int} (hz : Fz s g n' f T L) (c : Bool) {e : Int} {w : World} {ao : Option Addr} {n cn bn on : Nat} {F : Nat → Nat} (S : Sl w ao n cn bn on F) {bo : Option Addr} {m cm bm om : Nat} {G : Nat → Nat} (S' : Sl w bo m cm bm om G) (h : verr F n = 0) (h' : verr G m = 0) (m0 : m ≠ 0) (he : e < -1099511627776 ∨ 1099511627776 < e) : Calls Tryd.prog 11 #[.int .i64 s, .bool c, .slice ao n cn, .slice bo m cm, .int .i64 e] w fun x w' => x = .returned (.tuple #[.int .u64 0, .int .i64 1]) ∧ Below w.heap.size w w' := by
  have V1 := rvalid_any S
  have V2 := rvalid_any S'
  rw [h, show ((0 : Nat) : Int) = 0 from rfl] at V1
  rw [h', show ((0 : Nat) : Int) = 0 from rfl] at V2
  have HS := fun W => rsize_z hz W
  have m1 : ((m : Int) == 0) = false := by simp; omega
  have ml : m < 9223372036854775808 := by have a := S'.le; have b := S'.cap; unfold maxLen at b; omega
  clear S S' h hz h'
  by_cases p1 : e < -1099511627776
  · clear he
    go_enter Tryd.func11, Tryd.ntmps11
    go_wp2_with fail
    refine V1.mono ?_
    rintro x w1 ⟨rfl, rfl⟩
    go_wp2_with fail
    refine V2.mono ?_
    rintro x w2 ⟨rfl, rfl⟩
    go_wp2_with fail
    refine (HS _).mono ?_
    rintro x w3 ⟨rfl, rfl⟩
    go_wp2
    go_ret2
    exact ⟨rfl, Below.refl _ _⟩
  · have p2 : 1099511627776 < e := by omega
    clear he
    go_enter Tryd.func11, Tryd.ntmps11
    go_wp2_with fail
    refine V1.mono ?_
    rintro x w1 ⟨rfl, rfl⟩
    go_wp2_with fail
    refine V2.mono ?_
    rintro x w2 ⟨rfl, rfl⟩
    go_wp2_with fail
    refine (HS _).mono ?_
    rintro x w3 ⟨rfl, rfl⟩
    go_wp2
    go_ret2
    exact ⟨rfl, Below.refl _ _⟩
set_option maxRecDepth 100000 in
set_option maxHeartbeats 1000000 in
theorem rratio_ok {s : Int} {g n' f T : Nat} {L : Int} (hz : Fz s g n' f T L) (c : Bool) {e : Int} {w : World} {ao : Option Addr} {n cn bn on : Nat} {F : Nat → Nat} (S : Sl w ao n cn bn on F) {bo : Option Addr} {m cm bm om : Nat} {G : Nat → Nat} (S' : Sl w bo m cm bm om G) (h : verr F n = 0) (h' : verr G m = 0) (m0 : m ≠ 0) (h0 : -1099511627776 ≤ e) (h1 : e ≤ 1099511627776) : Calls Tryd.prog 11 #[.int .i64 s, .bool c, .slice ao n cn, .slice bo m cm, .int .i64 e] w fun x w' => x = .returned (anR g c (rdA f T L (V F n) (V G m) e false)) ∧ Below w.heap.size w w' := by
  have V1 := rvalid_any S
  have V2 := rvalid_any S'
  rw [h, show ((0 : Nat) : Int) = 0 from rfl] at V1
  rw [h', show ((0 : Nat) : Int) = 0 from rfl] at V2
  have HS := fun W => rsize_z hz W
  have m1 : ((m : Int) == 0) = false := by simp; omega
  have NX := natv_mk S h
  have NY := natv_mk S' h'
  have y0 : V G m ≠ 0 := by
    obtain ⟨_, _, _, q, hq, _⟩ := nat_slice NY
    cases q
    exact fun z => m0 (hq.2 z)
  obtain ⟨n8, t⟩ := verr_nat h
  obtain ⟨m8, t'⟩ := verr_nat h'
  have O1 := rof_any S (by omega)
  have H0 : Hid (Sl w bo m cm bm om G ∧ V F n < B ^ 128 ∧ V G m < B ^ 128 ∧ V G m ≠ 0 ∧ Fz s g n' f T L) := ⟨S', nat_lt NX, nat_lt NY, y0, hz⟩
  have p1 : ¬ e < -1099511627776 := by omega
  have p2 : ¬ 1099511627776 < e := by omega
  clear S S' h hz h' NX NY y0 t t' h0 h1
  unfold anR
  go_enter Tryd.func11, Tryd.ntmps11
  go_wp2_with fail
  refine V1.mono ?_
  rintro x w1 ⟨rfl, rfl⟩
  go_wp2_with fail
  refine V2.mono ?_
  rintro x w2 ⟨rfl, rfl⟩
  go_wp2_with fail
  refine (HS _).mono ?_
  rintro x w3 ⟨rfl, rfl⟩
  go_wp2_with fail
  refine O1.mono ?_
  rintro x w4 ⟨v1, rfl, n1, b4⟩
  have O2 := rof_any (H0.out.1.below b4) (by omega)
  have N1 : Hid (Big.NatV w4 v1 (V F n) ∧ Below w3.heap.size w3 w4) := ⟨n1, b4⟩
  clear n1 b4 O1
  go_wp2_with fail
  refine O2.mono ?_
  rintro x w5 ⟨v2, rfl, n2, b5⟩
  have N2 : Hid (Below w3.heap.size w3 w5) := N1.out.2.trans (b5.mono N1.out.2.size)
  have TR := rround_ok (e := e) H0.out.2.2.2.2 c false (N1.out.1.below b5) n2 (Fits.word H0.out.2.1) (Fits.word H0.out.2.2.1) H0.out.2.2.2.1
  unfold anR at TR
  clear n2 b5 O2 N1
  go_wp2_with fail
  refine TR.mono ?_
  rintro x w6 ⟨rfl, b6⟩
  have B6 : Hid (Below w3.heap.size w3 w6) := N2.out.trans (b6.mono N2.out.size)
  clear b6 TR N2
  go_wp2
  all_goals go_ret2
  all_goals exact ⟨rfl, B6.out⟩
set_option maxRecDepth 100000 in
set_option maxHeartbeats 1000000 in
theorem rwhole_no {s : Int} (h : Sn s) (c more : Bool) (m : Nat) (e : Int) (w : World) : Calls Tryd.prog 16 #[.int .i64 s, .bool c, .int .u64 (m : Int), .int .i64 e, .bool more] w fun x w' => x = .returned (.tuple #[.int .u64 0, .int .i64 5]) ∧ Below w.heap.size w w' := by
  have HS := fun W => rsize_no h W
  clear h
  go_enter Tryd.func16, Tryd.ntmps16
  go_wp2_with fail
  refine (HS _).mono ?_
  rintro x w3 ⟨rfl, rfl⟩
  go_wp2
  go_ret2
  exact ⟨rfl, Below.refl _ _⟩
set_option maxRecDepth 100000 in
set_option maxHeartbeats 1000000 in
theorem rwhole_far1 {s : Int} {g n' f T : Nat} {L : Int} (hz : Fz s g n' f T L) (c more : Bool) (m : Nat) {e : Int} (p1 : e < -1099511627776) (w : World) : Calls Tryd.prog 16 #[.int .i64 s, .bool c, .int .u64 (m : Int), .int .i64 e, .bool more] w fun x w' => x = .returned (.tuple #[.int .u64 0, .int .i64 1]) ∧ Below w.heap.size w w' := by
  have HS := fun W => rsize_z hz W
  clear hz
  go_enter Tryd.func16, Tryd.ntmps16
  go_wp2_with fail
  refine (HS _).mono ?_
  rintro x w3 ⟨rfl, rfl⟩
  go_wp2
  go_ret2
  exact ⟨rfl, Below.refl _ _⟩
set_option maxRecDepth 100000 in
set_option maxHeartbeats 1000000 in
theorem rwhole_far2 {s : Int} {g n' f T : Nat} {L : Int} (hz : Fz s g n' f T L) (c more : Bool) (m : Nat) {e : Int} (p1 : ¬ e < -1099511627776) (p2 : 1099511627776 < e) (w : World) : Calls Tryd.prog 16 #[.int .i64 s, .bool c, .int .u64 (m : Int), .int .i64 e, .bool more] w fun x w' => x = .returned (.tuple #[.int .u64 0, .int .i64 1]) ∧ Below w.heap.size w w' := by
  have HS := fun W => rsize_z hz W
  clear hz
  go_enter Tryd.func16, Tryd.ntmps16
  go_wp2_with fail
  refine (HS _).mono ?_
  rintro x w3 ⟨rfl, rfl⟩
  go_wp2
  go_ret2
  exact ⟨rfl, Below.refl _ _⟩
set_option maxRecDepth 100000 in
set_option maxHeartbeats 1000000 in
theorem rwhole_ok {s : Int} {g n' f T : Nat} {L : Int} (hz : Fz s g n' f T L) (c more : Bool) {m : Nat} {e : Int} (hm : m < 18446744073709551616) (p1 : ¬ e < -1099511627776) (p2 : ¬ 1099511627776 < e) (w : World) : Calls Tryd.prog 16 #[.int .i64 s, .bool c, .int .u64 (m : Int), .int .i64 e, .bool more] w fun x w' => x = .returned (anR g c (rdA f T L m 1 e more)) ∧ Below w.heap.size w w' := by
  have HS := fun W => rsize_z hz W
  have S1 := fun W => small_nat m hm W
  have S2 : ∀ W, Calls Tryd.prog 38 #[.int .u64 1] W fun e w' => ∃ v, e = .returned v ∧ Big.NatV w' v 1 ∧ Below W.heap.size W w' := fun W => small_nat 1 (by unfold B; decide) W
  have fm : Fits 256 m := (Fits.word (n := 1) (by rw [Nat.pow_one]; exact hm)).up (by omega)
  have f1 : Fits 256 1 := (two_fits (s := 0) (k := 1) (by omega)).up (by omega)
  have H0 : Hid (Fits 256 m ∧ Fits 256 1 ∧ Fz s g n' f T L) := ⟨fm, f1, hz⟩
  clear fm f1 hz hm
  unfold anR
  go_enter Tryd.func16, Tryd.ntmps16
  go_wp2_with fail
  refine (HS _).mono ?_
  rintro x w3 ⟨rfl, rfl⟩
  go_wp2_with fail
  refine (S1 _).mono ?_
  rintro x w4 ⟨v1, rfl, n1, b4⟩
  have N1 : Hid (Big.NatV w4 v1 m ∧ Below w3.heap.size w3 w4) := ⟨n1, b4⟩
  clear n1 b4 S1
  go_wp2_with fail
  refine (S2 _).mono ?_
  rintro x w5 ⟨v2, rfl, n2, b5⟩
  have N2 : Hid (Below w3.heap.size w3 w5) := N1.out.2.trans (b5.mono N1.out.2.size)
  have TR := rround_ok (e := e) H0.out.2.2 c more (N1.out.1.below b5) n2 H0.out.1 H0.out.2.1 (by omega)
  unfold anR at TR
  clear n2 b5 S2 N1
  go_wp2_with fail
  refine TR.mono ?_
  rintro x w6 ⟨rfl, b6⟩
  have B6 : Hid (Below w3.heap.size w3 w6) := N2.out.trans (b6.mono N2.out.size)
  clear b6 TR N2
  go_wp2
  all_goals go_ret2
  all_goals exact ⟨rfl, B6.out⟩
end Go.Proofs.YtealnajogkeckaaDoor
