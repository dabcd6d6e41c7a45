/-
  dec.shorten at 801 digits; dec.Make for every text of at most 801 digits, by what shorten answers.
-/
import Derived.Test.YtladeppjccfbhaaDoorDecY
namespace Go.Proofs.YtladeppjccfbhaaDoor
open Go.RowKit

set_option maxRecDepth 100000 in
set_option maxHeartbeats 1000000 in
theorem shorten_cut {t : ByteArray} (hl : t.size = 801) (hx : dgt t 800 ≠ 48) {vv : ByteArray} (hv : t.extract 0 800 = vv) (w : World) :
    Calls Tryd.prog 59 #[.string t, .bool false] w fun e w' => e = .returned (.tuple #[.string vv, .bool true]) ∧ Below w.heap.size w w' := by
  have ez : (t.extract 800 t.size).size = 1 := by rw [ext_size (by omega)]; omega
  have e0 : dgt (t.extract 800 t.size) 0 = dgt t 800 := sub_dgt (by omega)
  have vz : vv.size = 800 := by rw [← hv]; exact pre_size (by omega)
  obtain ⟨y, hy⟩ : ∃ y, t.extract 800 t.size = y := ⟨_, rfl⟩
  rw [hy] at ez e0
  rw [hl] at hy
  have T := trimRight48 y (by omega) 1 (by omega) (fun i h h' => by omega) (fun _ => by rw [← dgt_lt (by omega), e0]; exact hx) w
  rw [show y.extract 0 1 = y by rw [← ez]; exact ext_zero y] at T
  have hE := empty_false (s := y) (by omega)
  have tz : (t.size : Int) = 801 := by omega
  have HV : Hid (vv.size = 800) := vz
  clear hx e0 vz
  go_enter Tryd.func59, Tryd.ntmps59
  go_wp2_with fail
  refine T.mono ?_
  rintro e w ⟨rfl, rfl⟩
  go_wp2_with fail
  refine (clone_any vv (by have := HV.out; omega) _).mono ?_
  rintro e w1 ⟨rfl, hb⟩
  go_wp2
  refine bodyPost_ret (v := .tuple #[.string vv, .bool true]) (by simp [results, Tryd.results59, go_sem]) rfl ⟨rfl, hb⟩

set_option maxRecDepth 100000 in
set_option maxHeartbeats 1000000 in
theorem shorten_last {t : ByteArray} (hl : t.size = 801) (hx : dgt t 800 = 48) {vv : ByteArray} (hv : t.extract 0 800 = vv) {m : Nat} (hm : m ≤ vv.size) (h1 : ∀ i, m ≤ i → i < vv.size → dgt vv i = 48) (h2 : 0 < m → dgt vv (m - 1) ≠ 48) (w : World) :
    Calls Tryd.prog 59 #[.string t, .bool false] w fun e w' => e = .returned (.tuple #[.string (vv.extract 0 m), .bool false]) ∧ Below w.heap.size w w' := by
  have ez : (t.extract 800 t.size).size = 1 := by rw [ext_size (by omega)]; omega
  have e0 : dgt (t.extract 800 t.size) 0 = dgt t 800 := sub_dgt (by omega)
  have vz : vv.size = 800 := by rw [← hv]; exact pre_size (by omega)
  obtain ⟨y, hy⟩ : ∃ y, t.extract 800 t.size = y := ⟨_, rfl⟩
  rw [hy] at ez e0
  rw [hl] at hy
  have T := trimRight48 y (by omega) 0 (by omega) (fun i h h' => by rw [← dgt_lt h', show i = 0 by omega, e0]; exact hx) (fun h => by omega) w
  rw [show y.extract 0 0 = ⟨#[]⟩ from size_zero (by rw [ByteArray.size_extract]; omega)] at T
  have T2 := fun W => trimRight48 vv (by omega) m hm (fun i a b => by rw [← dgt_lt b]; exact h1 i a b) (fun q => by rw [← dgt_lt (by omega)]; exact h2 q) W
  have zz := pre_size hm
  have tz : (t.size : Int) = 801 := by omega
  have HV : Hid (vv.size = 800) := vz
  clear hx e0 vz h1 h2
  generalize vv.extract 0 m = q at *
  go_enter Tryd.func59, Tryd.ntmps59
  go_wp2_with fail
  refine T.mono ?_
  rintro e w ⟨rfl, rfl⟩
  go_wp2_with fail
  refine (T2 _).mono ?_
  rintro e w ⟨rfl, rfl⟩
  go_wp2_with fail
  refine (clone_any q (by have := HV.out; omega) _).mono ?_
  rintro e w1 ⟨rfl, hb⟩
  go_wp2
  refine bodyPost_ret (v := .tuple #[.string q, .bool false]) (by simp [results, Tryd.results59, go_sem]) rfl ⟨rfl, hb⟩

set_option maxRecDepth 100000 in
set_option maxHeartbeats 1000000 in
theorem dmake_zero {t : ByteArray} {p : Int} (h0 : 0 < t.size) (hl : t.size ≤ 801) (hd : DG t) (hz1 : ∀ i, i < t.size → dgt t i = 48) (w : World) :
    Calls Tryd.prog 25 #[.string t, .int .i64 p, .bool false] w fun e w' => e = .returned (.tuple #[dcV ⟨#[]⟩ 0 false, .nilIface]) ∧ Below w.heap.size w w' := by
  have D := fun W => areDig_yes t (by omega) hd W
  have T := fun W => trimLeft_any t (by omega) t.size (Nat.le_refl _) h0 (fun i h => by rw [← dgt_lt h]; exact hz1 i h) (fun h => by omega) W
  rw [show t.extract t.size t.size = ⟨#[]⟩ from size_zero (by rw [ByteArray.size_extract]; omega)] at T
  clear hz1 hd
  unfold dcV
  go_enter Tryd.func25, Tryd.ntmps25
  go_wp2_with fail
  refine (D _).mono ?_
  rintro e w0 ⟨rfl, rfl⟩
  go_wp2_with fail
  refine (T _).mono ?_
  rintro e w0 ⟨rfl, rfl⟩
  go_wp2
  refine bodyPost_ret (v := .tuple #[.agg #[.string ⟨#[]⟩, .int .i64 0, .bool false], .nilIface]) (by simp [results, Tryd.results25, go_sem]) rfl ⟨rfl, ?_⟩
  exact (Below.refl _ _).alloc (Nat.le_refl _) _

set_option maxRecDepth 100000 in
set_option maxHeartbeats 1000000 in
theorem dmake_in {t : ByteArray} {p : Int} (hl : t.size ≤ 801) (hd : DG t) {z : Nat} (hz : z < t.size) (hz1 : ∀ i, i < z → dgt t i = 48) (hz2 : dgt t z ≠ 48) {u : ByteArray} (hu : t.extract z t.size = u)
    {s2 : ByteArray} {c2 : Bool} (S : ∀ W, Calls Tryd.prog 59 #[.string u, .bool false] W fun e w' => e = .returned (.tuple #[.string s2, .bool c2]) ∧ Below W.heap.size W w') (hp0 : -1099511627776 ≤ p) (hp9 : p ≤ 2199023255552) (hr : inR p z) (w : World) :
    Calls Tryd.prog 25 #[.string t, .int .i64 p, .bool false] w fun e w' => e = .returned (.tuple #[dcV s2 (p - (z : Int)) c2, .nilIface]) ∧ Below w.heap.size w w' := by
  have D := fun W => areDig_yes t (by omega) hd W
  have T := fun W => trimLeft_any t (by omega) z (by omega) (by omega) (fun i h => by rw [← dgt_lt (by omega)]; exact hz1 i h) (fun h => by rw [← dgt_lt h]; exact hz2) W
  rw [hu] at T
  have uz : u.size = t.size - z := by rw [← hu]; exact ext_size (by omega)
  have hE := empty_false (s := u) (by omega)
  have e0 : IntKind.i64.wrap ((t.size : Int) - (u.size : Int)) = (z : Int) := by
    unfold IntKind.wrap
    simp [IntKind.bits, IntKind.signed]
    omega
  have E1 : IntKind.i64.wrap ((z : Int) - 1099511627776) = (z : Int) - 1099511627776 := by
    unfold IntKind.wrap
    simp [IntKind.bits, IntKind.signed]
    omega
  have E2 : IntKind.i64.wrap ((z : Int) + 1099511627776) = (z : Int) + 1099511627776 := by
    unfold IntKind.wrap
    simp [IntKind.bits, IntKind.signed]
    omega
  have E3 : IntKind.i64.wrap (p - (z : Int)) = p - (z : Int) := by
    unfold IntKind.wrap
    simp [IntKind.bits, IntKind.signed]
    omega
  obtain ⟨a, e1, ha⟩ : ∃ x : Int, IntKind.i64.wrap ((z : Int) - 1099511627776) = x ∧ x = (z : Int) - 1099511627776 := ⟨_, E1, rfl⟩
  obtain ⟨b, e2, hb'⟩ : ∃ x : Int, IntKind.i64.wrap ((z : Int) + 1099511627776) = x ∧ x = (z : Int) + 1099511627776 := ⟨_, E2, rfl⟩
  obtain ⟨q, e3, hq⟩ : ∃ x : Int, IntKind.i64.wrap (p - (z : Int)) = x ∧ x = p - (z : Int) := ⟨_, E3, rfl⟩
  clear E1 E2 E3
  have r1 : decide (p < a) = false := decide_eq_false (by unfold inR at hr; omega)
  have r2 : decide (b < p) = false := decide_eq_false (by unfold inR at hr; omega)
  rw [← hq]
  clear hz1 hz2 hd hu uz hl hz hp0 hp9 ha hb' hq hr
  unfold dcV
  go_enter Tryd.func25, Tryd.ntmps25
  go_wp2_with fail
  refine (D _).mono ?_
  rintro e w0 ⟨rfl, rfl⟩
  go_wp2_with fail
  refine (T _).mono ?_
  rintro e w0 ⟨rfl, rfl⟩
  go_wp2_with fail
  refine (S _).mono ?_
  rintro e w1 ⟨rfl, hb⟩
  have hs1 : w.heap.size < w1.heap.size := by have := hb.size; simp at this; omega
  obtain ⟨hc, hf⟩ : (∀ o, w1.cell? ⟨w.heap.size, o, none⟩ = (w.alloc (.cells #[.string ⟨#[]⟩, .int .i64 0, .bool false] 23)).cell? ⟨w.heap.size, o, none⟩) ∧ (∀ o, w1.frozen? ⟨w.heap.size, o, none⟩ = (w.alloc (.cells #[.string ⟨#[]⟩, .int .i64 0, .bool false] 23)).frozen? ⟨w.heap.size, o, none⟩) :=
    ⟨fun o => hb.cell (p := ⟨w.heap.size, o, none⟩) (by simp), fun o => hb.frozen (p := ⟨w.heap.size, o, none⟩) (by simp)⟩
  go_wp2
  refine bodyPost_ret (v := .tuple #[.agg #[.string s2, .int .i64 q, .bool c2], .nilIface]) (by simp [results, Tryd.results25, go_sem, hc]) rfl ⟨rfl, ?_⟩
  exact ((((((Below.refl _ _).alloc (Nat.le_refl _) _).trans (hb.mono (by simp))).setCell (Nat.le_refl _) _).setCell (Nat.le_refl _) _).setCell (Nat.le_refl _) _)

set_option maxRecDepth 100000 in
set_option maxHeartbeats 1000000 in
theorem dmake_out {t : ByteArray} {p : Int} (hl : t.size ≤ 801) (hd : DG t) {z : Nat} (hz : z < t.size) (hz1 : ∀ i, i < z → dgt t i = 48) (hz2 : dgt t z ≠ 48) {u : ByteArray} (hu : t.extract z t.size = u)
    (hp0 : -1099511627776 ≤ p) (hp9 : p ≤ 2199023255552) (hr : ¬ inR p z) (w : World) :
    Calls Tryd.prog 25 #[.string t, .int .i64 p, .bool false] w fun e w' => e = .returned (.tuple #[dcV ⟨#[]⟩ 0 false, .iface 68 (.int .i64 4)]) ∧ Below w.heap.size w w' := by
  have D := fun W => areDig_yes t (by omega) hd W
  have T := fun W => trimLeft_any t (by omega) z (by omega) (by omega) (fun i h => by rw [← dgt_lt (by omega)]; exact hz1 i h) (fun h => by rw [← dgt_lt h]; exact hz2) W
  rw [hu] at T
  have uz : u.size = t.size - z := by rw [← hu]; exact ext_size (by omega)
  have hE := empty_false (s := u) (by omega)
  have e0 : IntKind.i64.wrap ((t.size : Int) - (u.size : Int)) = (z : Int) := by
    unfold IntKind.wrap
    simp [IntKind.bits, IntKind.signed]
    omega
  have E1 : IntKind.i64.wrap ((z : Int) - 1099511627776) = (z : Int) - 1099511627776 := by
    unfold IntKind.wrap
    simp [IntKind.bits, IntKind.signed]
    omega
  have E2 : IntKind.i64.wrap ((z : Int) + 1099511627776) = (z : Int) + 1099511627776 := by
    unfold IntKind.wrap
    simp [IntKind.bits, IntKind.signed]
    omega
  have E3 : IntKind.i64.wrap (p - (z : Int)) = p - (z : Int) := by
    unfold IntKind.wrap
    simp [IntKind.bits, IntKind.signed]
    omega
  obtain ⟨a, e1, ha⟩ : ∃ x : Int, IntKind.i64.wrap ((z : Int) - 1099511627776) = x ∧ x = (z : Int) - 1099511627776 := ⟨_, E1, rfl⟩
  obtain ⟨b, e2, hb'⟩ : ∃ x : Int, IntKind.i64.wrap ((z : Int) + 1099511627776) = x ∧ x = (z : Int) + 1099511627776 := ⟨_, E2, rfl⟩
  obtain ⟨q, e3, hq⟩ : ∃ x : Int, IntKind.i64.wrap (p - (z : Int)) = x ∧ x = p - (z : Int) := ⟨_, E3, rfl⟩
  clear E1 E2 E3
  have hr2 : ¬ p < a → b < p := by unfold inR at hr; omega
  clear hz1 hz2 hd hu uz hl hz hp0 hp9 ha hb' hq hr
  unfold dcV
  by_cases r1 : p < a
  · clear hr2
    go_enter Tryd.func25, Tryd.ntmps25
    go_wp2_with fail
    refine (D _).mono ?_
    rintro e w0 ⟨rfl, rfl⟩
    go_wp2_with fail
    refine (T _).mono ?_
    rintro e w0 ⟨rfl, rfl⟩
    go_wp2
    refine bodyPost_ret (v := .tuple #[.agg #[.string ⟨#[]⟩, .int .i64 0, .bool false], .iface 68 (.int .i64 4)]) (by simp [results, Tryd.results25, go_sem]) rfl ⟨rfl, ?_⟩
    exact (Below.refl _ _).alloc (Nat.le_refl _) _
  · have r2 : b < p := hr2 r1
    clear hr2
    go_enter Tryd.func25, Tryd.ntmps25
    go_wp2_with fail
    refine (D _).mono ?_
    rintro e w0 ⟨rfl, rfl⟩
    go_wp2_with fail
    refine (T _).mono ?_
    rintro e w0 ⟨rfl, rfl⟩
    go_wp2
    refine bodyPost_ret (v := .tuple #[.agg #[.string ⟨#[]⟩, .int .i64 0, .bool false], .iface 68 (.int .i64 4)]) (by simp [results, Tryd.results25, go_sem]) rfl ⟨rfl, ?_⟩
    exact (Below.refl _ _).alloc (Nat.le_refl _) _

end Go.Proofs.YtladeppjccfbhaaDoor
