/-
  The one contract of the program's four calls (CmT), for every input, without a meter and with one.
-/
import Derived.Test.YtfoaeholbidngaaGreatDoorCrP
import Derived.Test.YtfoaeholbidngaaGreatDoorCrL
namespace Go.Proofs.YtfoaeholbidngaaGreatDoor
open Go.RowKit

theorem ans_of {w0 : World} {fn : FuncId} {args : Array Value} {v : Value} {n : Int}
    (H : ∀ mb e t s W, Frm mb w0 W → Mq mb e t W 0 s → 0 ≤ s → s ≤ 100 → Calls Tryz.prog fn (args.push (mqV mb)) W fun o W' => o = .returned v ∧ Bt mb W W' ∧ Mq mb e t W' 0 (s + n)) : Ans w0 fn args v n := by
  refine ⟨fun W hW => ?_, fun W b p e t s hW hb m p0 p1 s0 s1 => ?_⟩
  · refine (H none 0 0 0 W ⟨hW, fun b h => by cases h⟩ rfl (by decide) (by decide)).mono ?_
    rintro o W' ⟨rfl, b, _⟩
    exact ⟨rfl, b.none⟩
  · refine (H (some b) e t s W ⟨hW, fun c h => by injection h with h; omega⟩ ⟨p, p0, p1, m⟩ s0 s1).mono ?_
    rintro o W' ⟨rfl, bb, p', p0', p1', m'⟩
    exact ⟨p', rfl, p0', p1', m', bb.but⟩
theorem ans_err {w0 : World} {fn : FuncId} {args : Array Value} {v : Value}
    (H : ∀ (mb : Option Nat) W, Calls Tryz.prog fn (args.push (mqV mb)) W fun o W' => o = .returned v ∧ Below W.heap.size W W') : Ans w0 fn args v 0 :=
  ans_of fun mb e t s W _ m _ _ => (H mb W).mono fun o W' h => ⟨h.1, Bt.of h.2, by rw [Int.add_zero]; exact m.step h.2⟩
theorem nr_val {f T : Nat} {L : Int} {d : ByteArray} {p : Int} {cu : Bool} {r n : Nat} {er : Value} (e : nrX f T L d p cu = (r, decide (r = n))) (he : er = (if r = n then .iface 74 (.int .i64 4) else .nilIface)) : Ending.returned (.tuple #[.int .u64 (r : Int), er]) = .returned (.tuple #[.int .u64 (((nrX f T L d p cu).1 : Nat) : Int), erC (if (nrX f T L d p cu).2 then 4 else 0)]) := by
  rw [e, he]
  by_cases q : r = n
  · rw [if_pos q, decide_eq_true q, if_pos rfl, erC_four]
  · rw [if_neg q, decide_eq_false q, if_neg (by simp), erC_nil]
theorem set_go {z : Int} {d : ByteArray} {p : Int} {cu : Bool} {b c k : Int} (mb : Option Nat) {w0 : World} (c4 : (c == 4) = false) (U : ∀ W, Calls Tryz.prog 45 #[.int .u64 b, .int .i64 z] W fun e w' => e = .returned (.tuple #[.int .i64 c, .nilIface]) ∧ Below W.heap.size W w') {x : Int} {er : Value} {e t s : Int} {W : World}
    (F : Frm mb w0 W) (m : Mq mb e t W 0 s)
    (NR : ∀ W, Frm mb w0 W → Mq mb e t W 0 s → Calls Tryz.prog 14 #[dcV d p cu, .int .i64 z, mqV mb] W fun o W' => o = .returned (.tuple #[.int .u64 x, er]) ∧ Bt mb W W' ∧ Mq mb e t W' 0 (s + k)) :
    Calls Tryz.prog 16 #[dcV d p cu, .int .u64 b, .int .i64 z, mqV mb] W fun o W' => o = .returned (.tuple #[.int .u64 x, er]) ∧ Bt mb W W' ∧ Mq mb e t W' 0 (s + k) := by
  refine (psettle_go (R := fun x' er' W' => (x' = x ∧ er' = er) ∧ Bt mb W W' ∧ Mq mb e t W' 0 (s + k)) mb c4 U fun W1 h1 => (NR W1 (F.below h1) (m.step h1)).mono ?_).mono ?_
  · rintro o W' ⟨rfl, b1, m1⟩
    exact ⟨x, er, rfl, ⟨rfl, rfl⟩, (Bt.of h1).trans b1, m1⟩
  · rintro o W' ⟨_, _, rfl, ⟨rfl, rfl⟩, b1, m1⟩
    exact ⟨rfl, b1, m1⟩
theorem near_go {z : Int} {g n f T : Nat} {L : Int} (hz : Fz z g n f T L) {w0 : World} (hT : Tab w0) {d : ByteArray} {p : Int} {cu : Bool} (h : VD d p cu) (mb : Option Nat) {e t s : Int} (s0 : 0 ≤ s) (s1 : s ≤ 100) (W : World) (F : Frm mb w0 W) (m : Mq mb e t W 0 s) :
    Calls Tryz.prog 14 #[dcV d p cu, .int .i64 z, mqV mb] W fun o W' => o = .returned (.tuple #[.int .u64 (((nrX f T L d p cu).1 : Nat) : Int), erC (if (nrX f T L d p cu).2 then 4 else 0)]) ∧ Bt mb W W' ∧ Mq mb e t W' 0 (s + 1) := by
  refine (pnear_ok hz m s0 s1 F hT h).mono ?_
  rintro o W' ⟨⟨r, er, rfl, e1, he⟩, b1, m1⟩
  exact ⟨nr_val e1 he, b1, m1⟩
theorem near_none_of {z : Int} {g n f T : Nat} {L : Int} (hz : Fz z g n f T L) {d : ByteArray} (hd : d.size ≤ 9223372036854775807) {p : Int} {cu : Bool} (h : ¬ VD d p cu) (mb : Option Nat) (W : World) :
    Calls Tryz.prog 14 #[dcV d p cu, .int .i64 z, mqV mb] W fun o W' => o = .returned (.tuple #[.int .u64 0, erC 1]) ∧ Below W.heap.size W W' := by
  rw [erC_one]
  exact pnear_bad mb (fun W => check_z hz W) (fun W => dvalid_no hd h W) W
theorem cm_all {w0 : World} (hT : Tab w0) : CmT w0 where
  nn t p c z _ hz := ans_err fun mb W => by
    rw [erC_five]
    exact pnear_err mb (fun W => check_no hz 0 W) W
  nb t p c z g n f T L ht hz h := ans_err fun mb W => near_none_of hz ht h mb W
  nk t p c z g n f T L hz h := ans_of fun mb e t' s W F m s0 s1 => near_go hz hT h mb s0 s1 W F m
  sn t p c b z _ _ hz := ans_err fun mb W => by
    rw [erC_five]
    exact psettle_err mb (uns_err fun W => unp_no hz b W) W
  sb t p c b z g n f T L ht hb hz h := ans_of fun mb e t' s W F m s0 s1 => by
    have bad : ∀ (H : ∀ W, Calls Tryz.prog 16 #[dcV t p c, .int .u64 (b : Int), .int .i64 z, mqV mb] W fun o W' => o = .returned (.tuple #[.int .u64 0, .iface 74 (.int .i64 1)]) ∧ Below W.heap.size W W'), Calls Tryz.prog 16 #[dcV t p c, .int .u64 (b : Int), .int .i64 z, mqV mb] W fun o W' => o = .returned (.tuple #[.int .u64 0, erC 1]) ∧ Bt mb W W' ∧ Mq mb e t' W' 0 (s + 0) := fun H => by
      rw [erC_one]
      exact (H W).mono fun o W' q => ⟨q.1, Bt.of q.2, by rw [Int.add_zero]; exact m.step q.2⟩
    rcases uns_any hz hb with ⟨q, U⟩ | ⟨q, U | U⟩
    · rcases Nat.lt_or_ge n b with k | k
      · rw [cl_nan k] at U
        exact bad fun W => psettle_nan mb U rfl W
      · refine set_go mb ?_ U F m fun W1 F1 m1 => (near_none_of hz ht (fun v => h ⟨v, k⟩) mb W1).mono fun o W' q => ⟨q.1, Bt.of q.2, by rw [Int.add_zero]; exact m1.step q.2⟩
        unfold cl
        split
        · rfl
        · split
          · rfl
          · rw [if_pos (by omega)]; rfl
    · exact bad fun W => psettle_err mb U W
    · exact bad fun W => psettle_nan mb U rfl W
  sk t p c b z g n f T L hz h hb := ans_of fun mb e t' s W F m s0 s1 => by
    obtain ⟨_, hg, h2, _⟩ := fz_parts hz
    rcases uns_any hz (b := b) (by omega) with ⟨q, U⟩ | ⟨q, _⟩
    · refine set_go mb ?_ U F m fun W1 F1 m1 => near_go hz hT h mb s0 s1 W1 F1 m1
      unfold cl
      split
      · rfl
      · split
        · rfl
        · rw [if_pos (by omega)]; rfl
    · omega
  wn t p c b z _ _ hz := ans_err fun mb W => by
    rw [erC_five]
    exact pwith_err mb (fun W => plc_no hz t p c b W) W
  wb t p c b z g n f T L ht hb hz h := ans_err fun mb W => by
    rw [erC_one]
    exact pwith_err mb (fun W => plc_bad hz hb ht h W) W
  wk t p c b z g n f T L hz h hb := ans_of fun mb e t' s W F m s0 s1 => by
    refine (pwith_ok hz hb m F hT h).mono ?_
    rintro o W' ⟨⟨N, D, rfl, fr⟩, b1, m1⟩
    obtain ⟨rfl, rfl⟩ := fr.uniq (ex_frc _ _)
    refine ⟨?_, b1, by rw [Int.add_zero]; exact m1⟩
    rw [erC_nil, oc_same h fr (bnd_val hz hb)]
    rfl
  hn t p c b z _ _ hz := ans_err fun mb W => by
    rw [erC_five]
    exact phalf_err mb (fun W => plc_no hz t p c b W) W
  hb t p c b z g n f T L ht hb hz h := ans_err fun mb W => by
    rw [erC_one]
    exact phalf_err mb (fun W => plc_bad hz hb ht h W) W
  hk t p c b z g n f T L hz h hb := ans_of fun mb e t' s W F m s0 s1 => by
    refine (phalf_ok hz hb m F hT h).mono ?_
    rintro o W' ⟨⟨N, D, rfl, fr⟩, b1, m1⟩
    obtain ⟨rfl, rfl⟩ := fr.uniq (ex_frc _ _)
    refine ⟨?_, b1, by rw [Int.add_zero]; exact m1⟩
    rw [erC_nil, oc_same h fr (bnd_half hz hb)]
    rfl
end Go.Proofs.YtfoaeholbidngaaGreatDoor
