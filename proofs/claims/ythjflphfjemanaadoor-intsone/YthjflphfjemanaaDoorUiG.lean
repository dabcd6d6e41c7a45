/-
  uints' Format, Group, Pad without the errors: digits in groups: grouped; what is wrapped.
-/
import Derived.Test.YthjflphfjemanaaDoorUiD
import Derived.Test.YthjflphfjemanaaDoorShelf
import Derived.Deep.RegionHeld3
namespace Go.Proofs.YthjflphfjemanaaDoor
open Go.RowKit

/-- The builder of a call, in the world wr: what is in it. -/
structure Bld (w wr : World) (b : Nat) (l : List UInt8) : Prop where
  bd : Lib.IsBuilder 136 5 w.heap.size b (Lib.byteCells l) wr
  bel : Below w.heap.size w wr
theorem bld_write {w wr : World} {b : Nat} {l : List UInt8} (h : Bld w wr b l) (c : UInt8) {x : Int} (hx : (c.toNat : Int) = x) (hl : l.length + 1 ≤ 140737488355328) :
    Calls Tryd.prog 81 #[.pointer (some ⟨b, 0, none⟩), .int .u8 x] wr fun e w' => e = .returned .nilIface ∧ Bld w w' b (l ++ [c]) := by
  subst hx
  exact (writeByte_any w.heap.size b l c wr h.bd hl h.bel.size).mono fun _ _ q => ⟨q.1, q.2.1, h.bel.trans q.2.2⟩

set_option maxRecDepth 100000 in
set_option maxHeartbeats 1000000 in
theorem grouped_any (s : ByteArray) (hs : s.size ≤ 64) (g : Nat) (hg : 1 ≤ g) (w : World) :
    Calls Tryd.prog 63 #[.string s, .int .i64 (g : Int)] w fun e w' => e = .returned (.string ⟨(gr g s.data.toList).toArray⟩) ∧ Below w.heap.size w w' := by
  have d0 : ((g : Int) == 0) = false := beq_eq_false_iff_ne.mpr (by omega)
  have B0 : Hid (Bld w (w.alloc (.cells #[.pointer none, .slice none 0 0] 136)) w.heap.size []) := ⟨fresh_any w, (Below.refl _ _).alloc (Nat.le_refl _) _⟩
  obtain ⟨G, hG⟩ : ∃ G, G = gr g s.data.toList := ⟨_, rfl⟩
  rw [← hG]
  have HG : Hid (G = gr g s.data.toList) := hG
  clear hG
  go_enter Tryd.func63, Tryd.ntmps63
  go_wp2
  go_loopw [10] (fun iv wr => ∃ (k : Nat) (o : List UInt8), iv = .int .i64 (k : Int) ∧ k ≤ s.size ∧ Hid (Bld w wr w.heap.size o ∧ o.length ≤ 2 * k ∧ G = o ++ gr g (s.data.toList.drop k))) (fun iv _ => s.size - (intOf iv).toNat)
  case atStart => exact ⟨0, [], rfl, Nat.zero_le _, ⟨B0.out, Nat.zero_le _, by rw [HG.out, List.drop_zero]; rfl⟩⟩
  case round =>
    clear B0 HG
    obtain ⟨k, o, rfl, hk, HI⟩ := hrel
    by_cases hlt : k < s.size
    · have hlt' : (k : Int) < (s.size : Int) := by omega
      have HDR : Hid (s.data.toList.drop k = (s[k]'hlt) :: s.data.toList.drop (k + 1)) := drop_at s hlt
      have hrl : (s.data.toList.drop (k + 1)).length = s.size - 1 - k := by rw [List.length_drop]; simp; omega
      obtain ⟨c, hc⟩ : ∃ c, c = s[k]'hlt := ⟨_, rfl⟩
      have W1 := fun wr (h : Bld w wr w.heap.size o) => bld_write h c (x := ((s[k]'hlt).toNat : Int)) (by rw [hc]) (by have := HI.out.2.1; omega)
      have W2 := fun wr (h : Bld w wr w.heap.size (o ++ [c])) => bld_write h 95 (x := 95) rfl (by have := HI.out.2.1; simp; omega)
      have HL : Hid (o.length ≤ 2 * k) := HI.out.2.1
      obtain ⟨B, hB⟩ : ∃ B : Nat, s.size - 1 - k = B := ⟨_, rfl⟩
      have e1 : (s.size : Int) - 1 - (k : Int) = (B : Int) := by omega
      rw [hB] at hrl
      by_cases q : 0 < B
      · have q' : (0 : Int) < (B : Int) := by omega
        have t1 : (B : Int).tmod (g : Int) = ((B % g : Nat) : Int) := by rw [Int.tmod_eq_emod_of_nonneg (by omega), Int.natCast_emod]
        have t2 : (B : Int) % (g : Int) = ((B % g : Nat) : Int) := by rw [Int.natCast_emod]
        by_cases z : B % g = 0
        · have HN : Hid (G = ((o ++ [c]) ++ [95]) ++ gr g (s.data.toList.drop (k + 1))) := by
            show _ = _
            rw [HI.out.2.2, HDR.out, gr_yes (by rw [hrl]; exact ⟨q, z⟩), hc]; simp
          have HB : Hid (Bld w wr w.heap.size o) := HI.out.1
          have z' : ((B % g : Nat) : Int) = 0 := by omega
          rw [z'] at t1 t2
          clear HI HDR hrl hB hc z z'
          go_wp2_with fail
          refine (W1 _ HB.out).mono ?_
          rintro e w1 ⟨rfl, b1⟩
          have B1 : Hid (Bld w w1 w.heap.size (o ++ [c])) := b1
          clear b1 HB W1
          go_wp2_with fail
          refine (W2 _ B1.out).mono ?_
          rintro e w2 ⟨rfl, b2⟩
          have B2 : Hid (Bld w w2 w.heap.size ((o ++ [c]) ++ [95])) := b2
          clear b2 B1 W2
          go_wp2
          go_roundw
          case rel => exact ⟨k + 1, (o ++ [c]) ++ [95], by go_num, by omega, ⟨B2.out, by have := HL.out; simp; omega, HN.out⟩⟩
          case measure => simp [intOf] <;> omega
        · have HN : Hid (G = (o ++ [c]) ++ gr g (s.data.toList.drop (k + 1))) := by
            show _ = _
            rw [HI.out.2.2, HDR.out, gr_no (by rw [hrl]; exact fun y => z y.2), hc]; simp
          have HB : Hid (Bld w wr w.heap.size o) := HI.out.1
          have z' : (((B % g : Nat) : Int) == 0) = false := beq_eq_false_iff_ne.mpr (by omega)
          generalize B % g = m at *
          clear HI HDR hrl hB hc z W2
          go_wp2_with fail
          refine (W1 _ HB.out).mono ?_
          rintro e w1 ⟨rfl, b1⟩
          have B1 : Hid (Bld w w1 w.heap.size (o ++ [c])) := b1
          clear b1 HB W1
          go_wp2
          go_roundw
          case rel => exact ⟨k + 1, o ++ [c], by go_num, by omega, ⟨B1.out, by have := HL.out; simp; omega, HN.out⟩⟩
          case measure => simp [intOf] <;> omega
      · have HN : Hid (G = (o ++ [c]) ++ gr g (s.data.toList.drop (k + 1))) := by
          show _ = _
          rw [HI.out.2.2, HDR.out, gr_no (by rw [hrl]; exact fun y => q y.1), hc]; simp
        have HB : Hid (Bld w wr w.heap.size o) := HI.out.1
        have q' : ¬ (0 : Int) < (B : Int) := by omega
        clear HI HDR hrl hB hc W2 q
        go_wp2_with fail
        refine (W1 _ HB.out).mono ?_
        rintro e w1 ⟨rfl, b1⟩
        have B1 : Hid (Bld w w1 w.heap.size (o ++ [c])) := b1
        clear b1 HB W1
        go_wp2
        go_roundw
        case rel => exact ⟨k + 1, o ++ [c], by go_num, by omega, ⟨B1.out, by have := HL.out; simp; omega, HN.out⟩⟩
        case measure => simp [intOf] <;> omega
    · have hG : G = o := by
        rw [HI.out.2.2, drop_end s hlt]; simp [gr]
      subst hG
      have hlt' : ¬ (k : Int) < (s.size : Int) := by omega
      have S := string_any w.heap.size w.heap.size G wr HI.out.1.bd HI.out.1.bel.size
      have HB : Hid (Below w.heap.size w wr) := HI.out.1.bel
      clear HI
      go_wp2_with fail
      refine S.mono ?_
      rintro e w1 ⟨rfl, b1⟩
      have B1 : Hid (Below w.heap.size w w1) := HB.out.trans b1
      clear b1
      go_wp2
      go_ret
      exact ⟨rfl, B1.out⟩
end Go.Proofs.YthjflphfjemanaaDoor
