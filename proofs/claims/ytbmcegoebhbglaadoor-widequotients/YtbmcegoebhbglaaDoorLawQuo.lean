/-
  The statement WideQuotients: for all numbers a of two words and all words b the call of WideQuotients returns true, where errors.errorType holds the type 'error'.
-/
import Derived.Test.YtbmcegoebhbglaaDoorQuo
import Derived.Test.YtbmcegoebhbglaaDoorDivW
import Derived.Test.YtbmcegoebhbglaaDoorSure
import Derived.Test.YtbmcegoebhbglaaDoorErrNum
namespace Go.Proofs.YtbmcegoebhbglaaDoor
open Go.RowKit

theorem quo_same {h l b : Int} (h1 : Word h) (h2 : Word l) (h3 : Word b) (hb : 0 < b) :
    h / b = hiW (val h l / b.toNat) ∧ dvQ (h % b) l b = loW (val h l / b.toNat) ∧ dvR (h % b) l b = ((val h l % b.toNat : Nat) : Int) := by
  obtain ⟨e1, e2⟩ := divw_eq (h := h) (l := l) hb
  obtain ⟨w1, w2⟩ := divw_words h1 h2 h3 hb
  have vi := val_int h1 h2
  have vq := val_int w1 w2
  rw [← vi] at e1 e2
  obtain ⟨d, rfl⟩ : ∃ d : Nat, b = (d : Int) := ⟨b.toNat, by omega⟩
  rw [Int.toNat_natCast]
  have e : val (h / (d : Int)) (dvQ (h % d) l d) = val h l / d := by
    have : ((val (h / (d : Int)) (dvQ (h % d) l d) : Nat) : Int) = ((val h l / d : Nat) : Int) := by rw [vq, e1]; rfl
    omega
  refine ⟨?_, ?_, ?_⟩
  · rw [← e, hiW_val w1 w2]
  · rw [← e, loW_val w1 w2]
  · rw [e2]; rfl

set_option maxHeartbeats 4000000 in
set_option maxRecDepth 100000 in
theorem law_quo (h l b : Int) (h1 : Word h) (h2 : Word l) (h3 : Word b) (w : World) (hE : ErrT w) :
    Calls Tryd.prog 3 #[.agg #[.int .u64 h, .int .u64 l], .int .u64 b] w fun e w' => e = .returned (.bool true) ∧ Below w.heap.size w w' := by
  by_cases c : b = 0
  · subst c
    go_enter Tryd.func3, Tryd.ntmps3
    go_wp2_with fail
    refine (wdivw_zero h l _).mono ?_
    rintro e wa ⟨rfl, hba⟩
    obtain ⟨hca, hfa⟩ := bcell hba
    have sa := hba.size
    simp at hca hfa sa
    have q0 : w.heap.size < wa.heap.size := by omega
    have ba : Below w.heap.size w wa := ((Below.refl _ _).alloc (Nat.le_refl _) _).trans (hba.mono (by simp))
    go_wp2_with fail
    refine (rdivw_zero h l _).mono ?_
    rintro e wb ⟨rfl, hbb⟩
    obtain ⟨hcb, hfb⟩ := bcell hbb
    have sb := hbb.size
    simp at hcb hfb sb
    have q1 : w.heap.size < wb.heap.size := by omega
    have q2 : wa.heap.size < wb.heap.size := by omega
    have bb : Below w.heap.size w wb := (ba.alloc (by omega) _).trans (hbb.mono (by simp; omega))
    have hEb : ErrT (wb.alloc (.cells #[.int .u64 0, .int .u64 0] 24)) := (hE.below bb hE.pos).below ((Below.refl _ _).alloc (Nat.le_refl _) _) (hE.below bb hE.pos).pos
    go_wp2_with fail
    refine (num_errno 10 _ hEb).mono ?_
    rintro e wc ⟨rfl, hbc⟩
    obtain ⟨hcc, hfc⟩ := bcell hbc
    have sc := hbc.size
    simp at hcc hfc sc
    have q3 : wa.heap.size < wc.heap.size := by omega
    have q4 : wb.heap.size < wc.heap.size := by omega
    have bc : Below w.heap.size w wc := (bb.alloc (by omega) _).trans (hbc.mono (by simp; omega))
    go_wp2_with fail
    refine (sure_any _).mono ?_
    rintro e wd ⟨rfl, hbd⟩
    obtain ⟨hcd, hfd⟩ := bcell hbd
    have sd := hbd.size
    have bd : Below w.heap.size w wd := bc.trans (hbd.mono (by omega))
    go_wp2
    go_ret
    exact ⟨rfl, bd⟩
  · have hb : 0 < b := by have := h3.1; omega
    have F1 := fun W => wdivw_any h l b h1 h2 h3 hb W
    have F2 := fun W => rdivw_any h l b h1 h2 h3 hb W
    obtain ⟨e1, e2, e3⟩ := quo_same h1 h2 h3 hb
    rw [e1, e2, e3] at F1
    clear e1 e2 e3 c
    generalize hiW (val h l / b.toNat) = Qh at *
    generalize loW (val h l / b.toNat) = Ql at *
    generalize ((val h l % b.toNat : Nat) : Int) = Rr at *
    go_enter Tryd.func3, Tryd.ntmps3
    go_wp2_with fail
    refine (F1 _).mono ?_
    rintro e wa ⟨rfl, hba⟩
    obtain ⟨hca, hfa⟩ := bcell hba
    have sa := hba.size
    simp at hca hfa sa
    have q0 : w.heap.size < wa.heap.size := by omega
    have ba : Below w.heap.size w wa := ((Below.refl _ _).alloc (Nat.le_refl _) _).trans (hba.mono (by simp))
    go_wp2_with fail
    refine (F2 _).mono ?_
    rintro e wb ⟨rfl, hbb⟩
    obtain ⟨hcb, hfb⟩ := bcell hbb
    have sb := hbb.size
    simp at hcb hfb sb
    have q1 : w.heap.size < wb.heap.size := by omega
    have q2 : wa.heap.size < wb.heap.size := by omega
    have bb : Below w.heap.size w wb := (ba.alloc (by omega) _).trans (hbb.mono (by simp; omega))
    have hEb : ErrT (wb.alloc (.cells #[.int .u64 Qh, .int .u64 Ql] 24)) := (hE.below bb hE.pos).below ((Below.refl _ _).alloc (Nat.le_refl _) _) (hE.below bb hE.pos).pos
    go_wp2_with fail
    refine (num_nil _).mono ?_
    rintro e wc ⟨rfl, hbc⟩
    obtain ⟨hcc, hfc⟩ := bcell hbc
    have sc := hbc.size
    simp at hcc hfc sc
    have q3 : wa.heap.size < wc.heap.size := by omega
    have q4 : wb.heap.size < wc.heap.size := by omega
    have bc : Below w.heap.size w wc := (bb.alloc (by omega) _).trans (hbc.mono (by simp; omega))
    go_wp2_with fail
    refine (sure_any _).mono ?_
    rintro e wd ⟨rfl, hbd⟩
    obtain ⟨hcd, hfd⟩ := bcell hbd
    have sd := hbd.size
    have bd : Below w.heap.size w wd := bc.trans (hbd.mono (by omega))
    go_wp2
    go_ret
    exact ⟨rfl, bd⟩

end Go.Proofs.YtbmcegoebhbglaaDoor
