/-
  The statement DecOrder: for every number and every count of digits the call of DecOrder returns true, where the listed variables lie as the program's text lays them.
-/
import Derived.Test.YtladeppjccfbhaaDoorLawDOrderN
import Derived.Test.YtladeppjccfbhaaDoorLawDOrderP
import Derived.Test.YtladeppjccfbhaaDoorLawDOrderQ
import Derived.Test.YtladeppjccfbhaaDoorLawDOrderR
namespace Go.Proofs.YtladeppjccfbhaaDoor
open Go.RowKit

set_option maxHeartbeats 2000000 in
set_option maxRecDepth 100000 in
theorem sure_bad {s : ByteArray} {p : Int} {c : Bool} (hs : s.size ≤ 9223372036854775807) (h : ¬ VD s p c) (x : Int) (w : World) :
    Calls Tryd.prog 6 #[dcV s p c, .int .i64 x] w fun e w' => e = .returned (.bool true) ∧ Below w.heap.size w w' := by
  have VV := fun W => dvalid_no hs h W
  have FS := fun W => sure_any W
  clear h
  unfold dcV at *
  have X0 : Hid (BoxAt (w.alloc (.cells #[.string s, .int .i64 p, .bool c] 23)) w.heap.size s p c) := BoxAt.new w s p c
  have B0 : Hid (Below w.heap.size w (w.alloc (.cells #[.string s, .int .i64 p, .bool c] 23))) := (Below.refl _ _).alloc (Nat.le_refl _) _
  go_enter Tryd.func6, Tryd.ntmps6
  go_wp2_with fail
  refine (VV _).mono ?_
  rintro e w1 ⟨rfl, hb⟩
  have B1 : Hid (Below w.heap.size w w1) := B0.out.trans (hb.mono B0.out.size)
  replace X0 : Hid (BoxAt w1 w.heap.size s p c) := X0.out.step hb
  clear hb
  obtain ⟨_, y0, y1, y2⟩ := X0.out
  go_wp2_with fail
  refine (FS _).mono ?_
  rintro e w2 ⟨rfl, hb⟩
  have B2 : Hid (Below w.heap.size w w2) := B1.out.trans (hb.mono B1.out.size)
  clear hb
  go_wp2
  go_ret
  exact ⟨rfl, B2.out⟩

set_option maxHeartbeats 2000000 in
set_option maxRecDepth 100000 in
theorem sure_cut {s : ByteArray} {p : Int} (h : VD s p true) (x : Int) (w : World) :
    Calls Tryd.prog 6 #[dcV s p true, .int .i64 x] w fun e w' => e = .returned (.bool true) ∧ Below w.heap.size w w' := by
  have VV := fun W => dvalid_yes h W
  have FS := fun W => sure_any W
  clear h
  unfold dcV at *
  have X0 : Hid (BoxAt (w.alloc (.cells #[.string s, .int .i64 p, .bool true] 23)) w.heap.size s p true) := BoxAt.new w s p true
  have B0 : Hid (Below w.heap.size w (w.alloc (.cells #[.string s, .int .i64 p, .bool true] 23))) := (Below.refl _ _).alloc (Nat.le_refl _) _
  go_enter Tryd.func6, Tryd.ntmps6
  go_wp2_with fail
  refine (VV _).mono ?_
  rintro e w1 ⟨rfl, hb⟩
  have B1 : Hid (Below w.heap.size w w1) := B0.out.trans (hb.mono B0.out.size)
  replace X0 : Hid (BoxAt w1 w.heap.size s p true) := X0.out.step hb
  clear hb
  obtain ⟨_, y0, y1, y2⟩ := X0.out
  go_wp2_with fail
  refine (FS _).mono ?_
  rintro e w2 ⟨rfl, hb⟩
  have B2 : Hid (Below w.heap.size w w2) := B1.out.trans (hb.mono B1.out.size)
  clear hb
  go_wp2
  go_ret
  exact ⟨rfl, B2.out⟩

set_option maxHeartbeats 2000000 in
set_option maxRecDepth 100000 in
theorem sure_long {s : ByteArray} {p : Int} (h : VD s p false) (hl : 700 < s.size) (x : Int) (w : World) :
    Calls Tryd.prog 6 #[dcV s p false, .int .i64 x] w fun e w' => e = .returned (.bool true) ∧ Below w.heap.size w w' := by
  have VV := fun W => dvalid_yes h W
  have FS := fun W => sure_any W
  have c1 : (700 : Int) < (s.size : Int) := by omega
  clear h hl
  unfold dcV at *
  have X0 : Hid (BoxAt (w.alloc (.cells #[.string s, .int .i64 p, .bool false] 23)) w.heap.size s p false) := BoxAt.new w s p false
  have B0 : Hid (Below w.heap.size w (w.alloc (.cells #[.string s, .int .i64 p, .bool false] 23))) := (Below.refl _ _).alloc (Nat.le_refl _) _
  go_enter Tryd.func6, Tryd.ntmps6
  go_wp2_with fail
  refine (VV _).mono ?_
  rintro e w1 ⟨rfl, hb⟩
  have B1 : Hid (Below w.heap.size w w1) := B0.out.trans (hb.mono B0.out.size)
  replace X0 : Hid (BoxAt w1 w.heap.size s p false) := X0.out.step hb
  clear hb
  obtain ⟨_, y0, y1, y2⟩ := X0.out
  go_wp2_with fail
  refine (FS _).mono ?_
  rintro e w2 ⟨rfl, hb⟩
  have B2 : Hid (Below w.heap.size w w2) := B1.out.trans (hb.mono B1.out.size)
  clear hb
  go_wp2
  go_ret
  exact ⟨rfl, B2.out⟩

set_option maxHeartbeats 2000000 in
set_option maxRecDepth 100000 in
theorem sure_low {s : ByteArray} {p : Int} (h : VD s p false) (hl : s.size ≤ 700) (hp : p < -1000) (x : Int) (w : World) :
    Calls Tryd.prog 6 #[dcV s p false, .int .i64 x] w fun e w' => e = .returned (.bool true) ∧ Below w.heap.size w w' := by
  have VV := fun W => dvalid_yes h W
  have FS := fun W => sure_any W
  have c1 : ¬ (700 : Int) < (s.size : Int) := by omega
  clear h hl
  unfold dcV at *
  have X0 : Hid (BoxAt (w.alloc (.cells #[.string s, .int .i64 p, .bool false] 23)) w.heap.size s p false) := BoxAt.new w s p false
  have B0 : Hid (Below w.heap.size w (w.alloc (.cells #[.string s, .int .i64 p, .bool false] 23))) := (Below.refl _ _).alloc (Nat.le_refl _) _
  go_enter Tryd.func6, Tryd.ntmps6
  go_wp2_with fail
  refine (VV _).mono ?_
  rintro e w1 ⟨rfl, hb⟩
  have B1 : Hid (Below w.heap.size w w1) := B0.out.trans (hb.mono B0.out.size)
  replace X0 : Hid (BoxAt w1 w.heap.size s p false) := X0.out.step hb
  clear hb
  obtain ⟨_, y0, y1, y2⟩ := X0.out
  go_wp2_with fail
  refine (FS _).mono ?_
  rintro e w2 ⟨rfl, hb⟩
  have B2 : Hid (Below w.heap.size w w2) := B1.out.trans (hb.mono B1.out.size)
  clear hb
  go_wp2
  go_ret
  exact ⟨rfl, B2.out⟩

set_option maxHeartbeats 2000000 in
set_option maxRecDepth 100000 in
theorem sure_high {s : ByteArray} {p : Int} (h : VD s p false) (hl : s.size ≤ 700) (hp : 1000 < p) (x : Int) (w : World) :
    Calls Tryd.prog 6 #[dcV s p false, .int .i64 x] w fun e w' => e = .returned (.bool true) ∧ Below w.heap.size w w' := by
  have VV := fun W => dvalid_yes h W
  have FS := fun W => sure_any W
  have c1 : ¬ (700 : Int) < (s.size : Int) := by omega
  have c2 : ¬ p < -1000 := by omega
  clear h hl
  unfold dcV at *
  have X0 : Hid (BoxAt (w.alloc (.cells #[.string s, .int .i64 p, .bool false] 23)) w.heap.size s p false) := BoxAt.new w s p false
  have B0 : Hid (Below w.heap.size w (w.alloc (.cells #[.string s, .int .i64 p, .bool false] 23))) := (Below.refl _ _).alloc (Nat.le_refl _) _
  go_enter Tryd.func6, Tryd.ntmps6
  go_wp2_with fail
  refine (VV _).mono ?_
  rintro e w1 ⟨rfl, hb⟩
  have B1 : Hid (Below w.heap.size w w1) := B0.out.trans (hb.mono B0.out.size)
  replace X0 : Hid (BoxAt w1 w.heap.size s p false) := X0.out.step hb
  clear hb
  obtain ⟨_, y0, y1, y2⟩ := X0.out
  go_wp2_with fail
  refine (FS _).mono ?_
  rintro e w2 ⟨rfl, hb⟩
  have B2 : Hid (Below w.heap.size w w2) := B1.out.trans (hb.mono B1.out.size)
  clear hb
  go_wp2
  go_ret
  exact ⟨rfl, B2.out⟩

theorem law_dorder (s : ByteArray) (p : Int) (c : Bool) (hs : s.size ≤ 9223372036854775807) (x : Int) (w : World) (hA : AtoiV w) (hP : PowB w.heap.size w) :
    Calls Tryd.prog 6 #[dcV s p c, .int .i64 x] w fun e w' => e = .returned (.bool true) ∧ Below w.heap.size w w' := by
  by_cases h : VD s p c
  · cases c with
    | true => exact sure_cut h x w
    | false =>
      by_cases hl : s.size ≤ 700
      · by_cases hp0 : -1000 ≤ p
        · by_cases hp1 : p ≤ 1000
          · obtain ⟨u, n, e1, e2, hn⟩ := forty x
            by_cases on : n < s.size
            · have g : VN s p false := h.resolve_left (fun z => by have := z.1; omega)
              obtain ⟨sl, pl, sh, ph, O, alt⟩ := ord_on g hl hp0 hp1 hn on
              rcases alt with ⟨rfl, rfl, rfl, rfl⟩ | ⟨rfl, rfl, hz⟩ | ⟨m, k, m0, hm, k0, hk, rfl, rfl, rfl, rfl, dz, dl⟩
              · cases q : upB s false n
                · exact order_zl h hl hp0 hp1 e1 e2 (O _ _ (fun z => by rw [q] at z; cases z) (fun _ => ⟨rfl, rfl⟩)) w hA hP
                · exact order_zh h hl hp0 hp1 e1 e2 (O _ _ (fun _ => ⟨rfl, rfl⟩) (fun z => by rw [q] at z; cases z)) w hA hP
              · cases q : upB s false n
                · exact order_nl h hl hp0 hp1 e1 e2 hz (O _ _ (fun z => by rw [q] at z; cases z) (fun _ => ⟨rfl, rfl⟩)) w hA hP
                · exact order_nh h hl hp0 hp1 e1 e2 hz (O _ _ (fun _ => ⟨rfl, rfl⟩) (fun z => by rw [q] at z; cases z)) w hA hP
              · have zl := pre_size (s := s) (k := m) (by omega)
                have zu := upS_size (s := s) (m := k) k0 (by omega)
                have ud := (upS_dgt g.dg k0 (by omega)).2
                have dd : ∀ j, j < (s.extract 0 m).size → dgt (s.extract 0 m) j = dgt s j := fun j hj => pre_dgt (by omega) (by omega)
                have ne : s.extract 0 m ≠ upS s k := fun q => by
                  have mk : m = k := by rw [← zl, q, zu]
                  subst mk
                  have a := dd (m - 1) (by omega)
                  rw [q, ud] at a
                  omega
                have zd := dgt_in g.dg (n - 1)
                obtain ⟨cc, CC, al⟩ := btw_cmp g (show 0 < n by omega) hn on
                rcases al with ⟨rfl, q⟩ | ⟨rfl, q⟩ | ⟨rfl, r, q⟩ | ⟨rfl, r, q⟩
                · exact order_mu g hl hp0 hp1 e1 e2 hn on (O _ _ (fun _ => ⟨rfl, rfl⟩) (fun z => by rw [q] at z; cases z)) zl m0 hm dd dz ne CC rfl w hA hP
                · exact order_md g hl hp0 hp1 e1 e2 hn on (O _ _ (fun z => by rw [q] at z; cases z) (fun _ => ⟨rfl, rfl⟩)) zl m0 hm dd dz ne CC rfl w hA hP
                · exact order_mo g hl hp0 hp1 e1 e2 hn on (O _ _ (fun _ => ⟨rfl, rfl⟩) (fun z => by rw [q] at z; cases z)) zl m0 hm dd dz ne CC (by omega) w hA hP
                · exact order_me g hl hp0 hp1 e1 e2 hn on (O _ _ (fun z => by rw [q] at z; cases z) (fun _ => ⟨rfl, rfl⟩)) zl m0 hm dd dz ne CC (by omega) w hA hP
            · exact order_off h hl hp0 hp1 e1 e2 (ord_off h hl hn (by omega)) w hA hP
          · exact sure_high h hl (by omega) x w
        · exact sure_low h hl (by omega) x w
      · exact sure_long h (by omega) x w
  · exact sure_bad hs h x w

end Go.Proofs.YtladeppjccfbhaaDoor
