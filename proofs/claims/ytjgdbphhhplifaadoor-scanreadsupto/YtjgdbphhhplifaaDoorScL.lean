/-
  The document's Scan: what it answers for every text.
-/
import Derived.Test.YtjgdbphhhplifaaDoorScY
namespace Go.Proofs.YtjgdbphhhplifaaDoor
open Go.RowKit

/-- What the document's Scan answers. -/
def rsV : Option Pt → Value
  | none => .tuple #[.agg #[.bool false, .int .i64 0, .string ⟨#[]⟩, .int .i64 0, .bool false, .int .u64 0, .int .i64 0, .bool false], .int .i64 3]
  | some p => .tuple #[ptV p, .int .i64 0]
set_option maxRecDepth 100000 in
set_option maxHeartbeats 2000000 in
theorem rscan_any (l : List UInt8) (hl : l.length ≤ 1048576) (w : World) : Calls Tryd.prog 9 #[.string (bl l)] w fun e w' => e = .returned (rsV (scn l)) ∧ Below w.heap.size w w' := by
  have PX := fun W => rprefix_any l hl W
  have hz : (bl l).size = l.length := rfl
  cases q : pfx l with
  | none =>
    rw [scn_none q]
    have PX2 : ∀ W, Calls Tryd.prog 11 #[.string (bl l)] W fun e w' => e = .returned (.tuple #[.agg #[.bool false, .int .i64 0, .string ⟨#[]⟩, .int .i64 0, .bool false, .int .u64 0, .int .i64 0, .bool false], .int .i64 0, .int .i64 3]) ∧ Below W.heap.size W w' := fun W => by have := PX W; rw [q] at this; exact this
    clear PX q hl hz
    generalize bl l = s at *
    show Calls _ _ _ _ fun e w' => e = .returned (.tuple #[.agg #[.bool false, .int .i64 0, .string ⟨#[]⟩, .int .i64 0, .bool false, .int .u64 0, .int .i64 0, .bool false], .int .i64 3]) ∧ _
    go_enter Tryd.func9, Tryd.ntmps9
    go_wp2_with fail
    refine (PX2 _).mono ?_
    rintro o w1 ⟨rfl, b1⟩
    have HS1 : Hid (SW w w1) := SW.start b1
    clear b1
    obtain ⟨_, x1, rr, fr⟩ := HS1.out
    have r0 := rr 0
    have r1 := rr 1
    have r2 := rr 2
    have r3 := rr 3
    have r4 := rr 4
    have r5 := rr 5
    have r6 := rr 6
    have r7 := rr 7
    simp only [zeroP] at r0 r1 r2 r3 r4 r5 r6 r7
    clear rr
    go_wp2
    refine bodyPost_ret (v := .tuple #[.agg #[.bool false, .int .i64 0, .string ⟨#[]⟩, .int .i64 0, .bool false, .int .u64 0, .int .i64 0, .bool false], .int .i64 3]) (by simp [results, Tryd.results9, go_sem, *]) rfl ⟨rfl, ?_⟩
    refine Below.alloc ?_ (by simp; omega) _
    iterate 8 (refine Below.setCell ?_ set_le0 _)
    exact HS1.out.bel
  | some x =>
    obtain ⟨p, n⟩ := x
    rw [scn_some q]
    have hpn := pfx_pos q
    have PX2 : ∀ W, Calls Tryd.prog 11 #[.string (bl l)] W fun e w' => e = .returned (.tuple #[ptV p, .int .i64 (n : Int), .int .i64 0]) ∧ Below W.heap.size W w' := fun W => by have := PX W; rw [q] at this; exact this
    unfold ptV at PX2
    by_cases z : n = l.length
    · rw [if_pos z]
      show Calls _ _ _ _ fun e w' => e = .returned (.tuple #[.agg #[.bool p.neg, .int .i64 p.kind, .string (bl p.dd), .int .i64 p.dp, .bool p.dc, .int .u64 (p.mant : Int), .int .i64 p.exp, .bool p.cut], .int .i64 0]) ∧ _
      have n0 : ((n : Int) != ((bl l).size : Int)) = false := by rw [hz, z]; simp
      clear q PX hl hz z hpn
      generalize bl l = s at *
      generalize p.kind = v1 at *
      generalize bl p.dd = v2 at *
      generalize p.dp = v3 at *
      generalize p.dc = v4 at *
      generalize (p.mant : Int) = v5 at *
      generalize p.exp = v6 at *
      generalize p.cut = v7 at *
      generalize p.neg = v0 at *
      go_enter Tryd.func9, Tryd.ntmps9
      go_wp2_with fail
      refine (PX2 _).mono ?_
      rintro o w1 ⟨rfl, b1⟩
      have HS1 : Hid (SW w w1) := SW.start b1
      clear b1
      obtain ⟨_, x1, rr, fr⟩ := HS1.out
      have r0 := rr 0
      have r1 := rr 1
      have r2 := rr 2
      have r3 := rr 3
      have r4 := rr 4
      have r5 := rr 5
      have r6 := rr 6
      have r7 := rr 7
      simp only [zeroP] at r0 r1 r2 r3 r4 r5 r6 r7
      clear rr
      go_wp2
      refine bodyPost_ret (v := .tuple #[.agg #[.bool v0, .int .i64 v1, .string v2, .int .i64 v3, .bool v4, .int .u64 v5, .int .i64 v6, .bool v7], .int .i64 0]) (by simp [results, Tryd.results9, go_sem, *]) rfl ⟨rfl, ?_⟩
      refine Below.alloc ?_ (by simp; omega) _
      iterate 8 (refine Below.setCell ?_ set_le0 _)
      exact HS1.out.bel
    · rw [if_neg z]
      show Calls _ _ _ _ fun e w' => e = .returned (.tuple #[.agg #[.bool false, .int .i64 0, .string ⟨#[]⟩, .int .i64 0, .bool false, .int .u64 0, .int .i64 0, .bool false], .int .i64 3]) ∧ _
      have n0 : ((n : Int) != ((bl l).size : Int)) = true := bne_iff_ne.mpr (by omega)
      clear q PX hl hz z hpn
      generalize bl l = s at *
      generalize p.kind = v1 at *
      generalize bl p.dd = v2 at *
      generalize p.dp = v3 at *
      generalize p.dc = v4 at *
      generalize (p.mant : Int) = v5 at *
      generalize p.exp = v6 at *
      generalize p.cut = v7 at *
      generalize p.neg = v0 at *
      go_enter Tryd.func9, Tryd.ntmps9
      go_wp2_with fail
      refine (PX2 _).mono ?_
      rintro o w1 ⟨rfl, b1⟩
      have HS1 : Hid (SW w w1) := SW.start b1
      clear b1
      obtain ⟨_, x1, rr, fr⟩ := HS1.out
      have r0 := rr 0
      have r1 := rr 1
      have r2 := rr 2
      have r3 := rr 3
      have r4 := rr 4
      have r5 := rr 5
      have r6 := rr 6
      have r7 := rr 7
      simp only [zeroP] at r0 r1 r2 r3 r4 r5 r6 r7
      clear rr
      go_wp2
      refine bodyPost_ret (v := .tuple #[.agg #[.bool false, .int .i64 0, .string ⟨#[]⟩, .int .i64 0, .bool false, .int .u64 0, .int .i64 0, .bool false], .int .i64 3]) (by simp [results, Tryd.results9, go_sem, *]) rfl ⟨rfl, ?_⟩
      refine Below.alloc ?_ (by simp; omega) _
      iterate 8 (refine Below.setCell ?_ set_le0 _)
      exact HS1.out.bel
end Go.Proofs.YtjgdbphhhplifaaDoor
