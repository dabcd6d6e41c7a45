/-
  What the document's Of answers: the number of a row of words, by digits of 32 bits.
-/
import Derived.Test.YtkkgancmodhghaaDoorBigS
import Derived.Deep.AppendLies
import Derived.Deep.RegionHeld3
namespace Go.Proofs.YtkkgancmodhghaaDoor
open Go.RowKit

theorem lo32 (x : Nat) : IntKind.u32.wrap (x : Int) = ((x % Big.B : Nat) : Int) := by
  rw [IntKind.wrap_u32]; unfold Big.B; omega
theorem hi32 {x : Nat} (h : x < B) : IntKind.u32.wrap ((x : Int) / 4294967296) = ((x / Big.B : Nat) : Int) := by
  rw [IntKind.wrap_u32]; unfold Big.B; unfold B at h; omega

set_option maxRecDepth 100000 in
set_option maxHeartbeats 2000000 in
theorem rof_any {w : World} {ao : Option Addr} {n c b o : Nat} {f : Nat → Nat} (S : Sl w ao n c b o f) (hn : n ≤ 1000) :
    Calls Tryd.prog 49 #[.slice ao n c] w fun e w' => ∃ v, e = .returned v ∧ Big.NatV w' v (V f n) ∧ Below w.heap.size w w' := by
  obtain ⟨i0, hi, hz0, hz1, hz2⟩ := info_parts Big.info_u32
  have HS : Hid (Sl w ao n c b o f) := S
  clear S
  go_enter Tryd.func49, Tryd.ntmps49
  go_wp2
  go_loopw [3, 4] (fun v i wr => ∃ k : Nat, i = .int .i64 (k : Int) ∧ k ≤ n ∧ wr.ownsRow w.heap.size 116 1 v (2 * k) (dV .u32 (halves f) (2 * k)) ∧ Below w.heap.size w wr) (fun _ i _ => n - (intOf i).toNat)
  case atStart => exact ⟨0, rfl, Nat.zero_le _, World.ownsRow_nil _ _ _ _, Below.refl _ _⟩
  case round =>
    obtain ⟨k, rfl, hk, hown, hbl⟩ := hrel
    have hsz := hbl.size
    by_cases c1 : k < n
    · obtain rfl := HS.out.addr (by omega)
      have hc := (HS.out.below hbl).cell k c1
      have hbk := HS.out.blk (by omega)
      have ne : ∀ q, u3.ownBlock = some q → b ≠ q := fun q hq => Nat.ne_of_lt (Nat.lt_of_lt_of_le hbk (hown.lt q hq).1)
      have e1 := lo32 (f k)
      have e2 := hi32 (HS.out.ws k)
      have ik0 : (0 : Int) ≤ (k : Int) := by omega
      have ik1 : (k : Int) < (n : Int) := by omega
      have HQ : Hid (f k % Big.B = halves f (2 * k) ∧ f k / Big.B = halves f (2 * k + 1)) := ⟨(halves_even f k).symm, (halves_odd f k).symm⟩
      generalize f k % Big.B = lo at *
      generalize f k / Big.B = hi' at *
      have HO : Hid (wr.ownsRow w.heap.size 116 1 u3 (2 * k) (dV .u32 (halves f) (2 * k)) ∧ Below w.heap.size w wr) := ⟨hown, hbl⟩
      clear hown hbl
      go_wp2
      go_region_held3 (fun w' => w'.cell? ⟨b, o + k, none⟩ = some (.int .u64 (f k : Int)))
        (first
          | go_keep
          | (rw [hgrow.cell_far _ (by simp; omega) (fun q => ne _ q.symm rfl)]; assumption))
        ((refine step_append_lies _ (by rfl) _ _ _ (by rfl) w.heap.size 116 i0 (.int .u32 0) 1 4 Big.und_big hi hz0 hz1 hz2 rfl (by omega) u3 (2 * k) (dV .u32 (halves f) (2 * k)) (by rfl) ((HO.out.1.alloc _).drew)
            ⟨wr.heap.size, 0, none⟩ 2 2 [.int .u32 (lo : Int), .int .u32 (hi' : Int)] (by rfl) (by rfl) (World.news_of_block (cs := #[.int .u32 (lo : Int), .int .u32 (hi' : Int)]) (t := 116) (fr := (0, 0)) (heap_alloc_new wr _)) (by simp [Value.oneCell'])
            (by omega) (by unfold maxLen; omega) (by omega) (by simp; omega) (wr.heap.size + 1) (by simp) ?_; intro gg cap w1 hown1 hgrow hat hlt))
      have hb3 : Below w.heap.size w w1 := ((HO.out.2.alloc hsz _).drew).grown hgrow (by simp; omega) (fun q hq => (HO.out.1.lt q hq).1)
      have HO3 : Hid (w1.ownsRow w.heap.size 116 1 (.slice (some ⟨gg, 0, none⟩) (2 * k + 2) cap) (2 * k + 2) (dV .u32 (halves f) (2 * (k + 1))) ∧ Below w.heap.size w w1) := by
        refine ⟨?_, hb3⟩
        have q := hown1
        rw [HQ.out.1, HQ.out.2] at q
        rw [show 2 * (k + 1) = 2 * k + 1 + 1 by omega, dV_succ, dV_succ, List.append_assoc]
        exact q
      clear hown1 hgrow hat hlt hb3
      go_wp2
      go_roundw
      case rel => exact ⟨k + 1, by go_num, by omega, HO3.out.1, HO3.out.2⟩
      case measure => simp [intOf]; omega
    · obtain rfl : k = n := by omega
      obtain ⟨ao', c', b', rfl, S', _⟩ := Big.own_sl hown (halves_Ws HS.out.ws)
      have T := Big.trim_any S'
      go_wp2_with fail
      refine T.mono ?_
      rintro e wa ⟨rfl, rfl⟩
      go_wp2
      go_ret
      refine ⟨_, rfl, ?_, hbl⟩
      have q := S'.trimmed
      rw [halves_V] at q
      exact q

end Go.Proofs.YtkkgancmodhghaaDoor
