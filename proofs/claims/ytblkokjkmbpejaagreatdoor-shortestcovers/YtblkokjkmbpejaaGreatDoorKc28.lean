/-
  Holds: SoFb SoI SoO.
-/
import Derived.Test.YtblkokjkmbpejaaGreatDoorRows
import Derived.Laws.Externs
import Derived.WalkKit
import Derived.WalkSpells
import Derived.WalkLawsBesides
import Derived.Lib.Mul64
import Derived.Stop.Asserts
import Derived.RowKitTokens
import Derived.Lib.Strings
import Derived.Lib.BufferWrite
import Derived.Deep.OwnRows
import Derived.Deep.RegionHeld3
import Derived.BigQuiet
import Derived.Lib.ConvBytes
import Derived.Laws.CopyOwn
import Derived.Lib.TrailingZeros
import Derived.Lib.ItoaNum
import Derived.Deep.LoopGhost
import Derived.Deep.AppendLies
import Derived.Deep.DeepCutAuto
import Derived.Test.YtblkokjkmbpejaaGreatDoorKc26
set_option maxRecDepth 100000
set_option maxHeartbeats 4000000
namespace Go.Proofs.YtblkokjkmbpejaaGreatDoor
open Go.RowKit
theorem seek_least {capv : Value} {J : World → Prop} (hJ : ∀ W W', J W → Below W.heap.size W W' → J W') {s t : ByteArray} {p q : Int} {c : Bool} (hs : VD s p false) (ht : VD t q false) {few many len : Nat} (fm : few ≤ many) (hm : many ≤ 800) (hl : len ≤ 2) {cand : Nat → List Dp} (hc : ∀ n, (cand n).length = len) (hv : ∀ n, few ≤ n → n ≤ many → ∀ d ∈ cand n, VD d.1 d.2 false)
    (HT : ∀ n, few ≤ n → n ≤ many → ∀ W, J W → Calls Tryz.prog 64 #[.int .i64 (n : Int), capv] W fun e w' => ∃ a : Nat, e = .returned (.slice (some ⟨a, 0, none⟩) len len) ∧ DRow w' a (cand n) ∧ Below W.heap.size W w') (w : World) (j0 : J w) :
    Calls Tryz.prog 52 #[.agg #[.string s, .int .i64 p, .bool false, .string t, .int .i64 q, .bool false, .bool c], .int .i64 (few : Int), .int .i64 (many : Int), .func (.func 64) #[] #[capv]] w fun x w' => x = .returned (ansV (seekF (hdB c s p t q) cand few (many + 1 - few))) ∧ Below w.heap.size w w' := by
  obtain ⟨R, hR⟩ : ∃ R, R = seekF (hdB c s p t q) cand few (many + 1 - few) := ⟨_, rfl⟩
  rw [← hR]
  have HR : Hid (seekF (hdB c s p t q) cand few (many + 1 - few) = R) := hR.symm
  have HJ : Hid ((∀ W W', J W → Below W.heap.size W W' → J W') ∧ J w) := ⟨hJ, j0⟩
  have HV : Hid (∀ n, few ≤ n → n ≤ many → ∀ d ∈ cand n, VD d.1 d.2 false) := hv
  have HL : Hid (∀ n, (cand n).length = len) := hc
  have HVD : Hid (VD s p false ∧ VD t q false) := ⟨hs, ht⟩
  have HTT : Hid (∀ n, few ≤ n → n ≤ many → ∀ W, J W → Calls Tryz.prog 64 #[.int .i64 (n : Int), capv] W fun e w' => ∃ a : Nat, e = .returned (.slice (some ⟨a, 0, none⟩) len len) ∧ DRow w' a (cand n) ∧ Below W.heap.size W w') := HT
  clear hR hJ j0 hv hc hs ht HT
  have F0 : Hid (Bk (((w.alloc (.cells #[.string s, .int .i64 p, .bool false, .string t, .int .i64 q, .bool false, .bool c] 59)).alloc (.cells #[.string ⟨#[]⟩, .int .i64 0, .bool false] 24)).alloc (.cells #[.string ⟨#[]⟩, .int .i64 0, .bool false] 24)) (w.heap.size) [.string s, .int .i64 p, .bool false, .string t, .int .i64 q, .bool false, .bool c] ∧ Bk (((w.alloc (.cells #[.string s, .int .i64 p, .bool false, .string t, .int .i64 q, .bool false, .bool c] 59)).alloc (.cells #[.string ⟨#[]⟩, .int .i64 0, .bool false] 24)).alloc (.cells #[.string ⟨#[]⟩, .int .i64 0, .bool false] 24)) (w.heap.size + 1) [.string ⟨#[]⟩, .int .i64 0, .bool false] ∧ Bk (((w.alloc (.cells #[.string s, .int .i64 p, .bool false, .string t, .int .i64 q, .bool false, .bool c] 59)).alloc (.cells #[.string ⟨#[]⟩, .int .i64 0, .bool false] 24)).alloc (.cells #[.string ⟨#[]⟩, .int .i64 0, .bool false] 24)) (w.heap.size + 1 + 1) [.string ⟨#[]⟩, .int .i64 0, .bool false] ∧ Below w.heap.size w (((w.alloc (.cells #[.string s, .int .i64 p, .bool false, .string t, .int .i64 q, .bool false, .bool c] 59)).alloc (.cells #[.string ⟨#[]⟩, .int .i64 0, .bool false] 24)).alloc (.cells #[.string ⟨#[]⟩, .int .i64 0, .bool false] 24))) := ⟨((Bk.new7 w (.string s) (.int .i64 p) (.bool false) (.string t) (.int .i64 q) (.bool false) (.bool c) 59).step ((Below.refl _ _).alloc (Nat.le_refl _) _)).step ((Below.refl _ _).alloc (Nat.le_refl _) _), (((by have q := Bk.new3 (w.alloc (.cells #[.string s, .int .i64 p, .bool false, .string t, .int .i64 q, .bool false, .bool c] 59)) (.string ⟨#[]⟩) (.int .i64 0) (.bool false) 24; simpa using q) : Bk ((w.alloc (.cells #[.string s, .int .i64 p, .bool false, .string t, .int .i64 q, .bool false, .bool c] 59)).alloc (.cells #[.string ⟨#[]⟩, .int .i64 0, .bool false] 24)) (w.heap.size + 1) [.string ⟨#[]⟩, .int .i64 0, .bool false])).step ((Below.refl _ _).alloc (Nat.le_refl _) _), ((by have q := Bk.new3 ((w.alloc (.cells #[.string s, .int .i64 p, .bool false, .string t, .int .i64 q, .bool false, .bool c] 59)).alloc (.cells #[.string ⟨#[]⟩, .int .i64 0, .bool false] 24)) (.string ⟨#[]⟩) (.int .i64 0) (.bool false) 24; simpa using q) : Bk (((w.alloc (.cells #[.string s, .int .i64 p, .bool false, .string t, .int .i64 q, .bool false, .bool c] 59)).alloc (.cells #[.string ⟨#[]⟩, .int .i64 0, .bool false] 24)).alloc (.cells #[.string ⟨#[]⟩, .int .i64 0, .bool false] 24)) (w.heap.size + 1 + 1) [.string ⟨#[]⟩, .int .i64 0, .bool false]), ((((Below.refl w.heap.size w)).alloc (Nat.le_refl _) _).alloc ((((Below.refl w.heap.size w)).alloc (Nat.le_refl _) _).size) _).alloc (((((Below.refl w.heap.size w)).alloc (Nat.le_refl _) _).alloc ((((Below.refl w.heap.size w)).alloc (Nat.le_refl _) _).size) _).size) _⟩
  go_enter Tryz.func52, Tryz.ntmps52
  have IB : Hid (Bk (((w.alloc (.cells #[.string s, .int .i64 p, .bool false, .string t, .int .i64 q, .bool false, .bool c] 59)).alloc (.cells #[.string ⟨#[]⟩, .int .i64 0, .bool false] 24)).alloc (.cells #[.string ⟨#[]⟩, .int .i64 0, .bool false] 24)) (w.heap.size) [.string s, .int .i64 p, .bool false, .string t, .int .i64 q, .bool false, .bool c] ∧ Bk (((w.alloc (.cells #[.string s, .int .i64 p, .bool false, .string t, .int .i64 q, .bool false, .bool c] 59)).alloc (.cells #[.string ⟨#[]⟩, .int .i64 0, .bool false] 24)).alloc (.cells #[.string ⟨#[]⟩, .int .i64 0, .bool false] 24)) (w.heap.size + 1) [.string ⟨#[]⟩, .int .i64 0, .bool false] ∧ Bk (((w.alloc (.cells #[.string s, .int .i64 p, .bool false, .string t, .int .i64 q, .bool false, .bool c] 59)).alloc (.cells #[.string ⟨#[]⟩, .int .i64 0, .bool false] 24)).alloc (.cells #[.string ⟨#[]⟩, .int .i64 0, .bool false] 24)) (w.heap.size + 1 + 1) [.string ⟨#[]⟩, .int .i64 0, .bool false] ∧ Below w.heap.size w (((w.alloc (.cells #[.string s, .int .i64 p, .bool false, .string t, .int .i64 q, .bool false, .bool c] 59)).alloc (.cells #[.string ⟨#[]⟩, .int .i64 0, .bool false] 24)).alloc (.cells #[.string ⟨#[]⟩, .int .i64 0, .bool false] 24))) := F0.out
  clear F0
  go_wp2
  go_step3
  go_wp2
  go_step3
  go_wp2
  go_loopg [11, 12, 14] (many + 1 - few) (fun g okv iv _ wr => ∃ n : Nat, okv = .bool false ∧ iv = .int .i64 (n : Int) ∧ few ≤ n ∧ n + g = many + 1 ∧ Hid (Bk wr (w.heap.size) [.string s, .int .i64 p, .bool false, .string t, .int .i64 q, .bool false, .bool c] ∧ Bk wr (w.heap.size + 1) [.string ⟨#[]⟩, .int .i64 0, .bool false] ∧ Bk wr (w.heap.size + 1 + 1) [.string ⟨#[]⟩, .int .i64 0, .bool false] ∧ Below w.heap.size w wr) ∧ Hid (seekF (hdB c s p t q) cand n g = R))
  case atStart => exact ⟨few, rfl, rfl, Nat.le_refl _, by omega, IB.out, HR.out⟩
  case round =>
    obtain ⟨n, rfl, rfl, hn, hng, HB, HS⟩ := hrel
    clear IB HR
    cases gk with
    | zero =>
      have F50 := HB
      clear HB
      have n1 : ¬ (n : Int) ≤ (many : Int) := by omega
      have e : R = none := HS.out.symm
      subst e
      have l1_0 := F50.out.1.lt
      have a1_0_0 := F50.out.1.cell 0 _ rfl
      have f1_0_0 := F50.out.1.fz 0
      have a1_0_1 := F50.out.1.cell 1 _ rfl
      have f1_0_1 := F50.out.1.fz 1
      have a1_0_2 := F50.out.1.cell 2 _ rfl
      have f1_0_2 := F50.out.1.fz 2
      have a1_0_3 := F50.out.1.cell 3 _ rfl
      have f1_0_3 := F50.out.1.fz 3
      have a1_0_4 := F50.out.1.cell 4 _ rfl
      have f1_0_4 := F50.out.1.fz 4
      have a1_0_5 := F50.out.1.cell 5 _ rfl
      have f1_0_5 := F50.out.1.fz 5
      have a1_0_6 := F50.out.1.cell 6 _ rfl
      have f1_0_6 := F50.out.1.fz 6
      have l1_1 := F50.out.2.1.lt
      have a1_1_0 := F50.out.2.1.cell 0 _ rfl
      have f1_1_0 := F50.out.2.1.fz 0
      have a1_1_1 := F50.out.2.1.cell 1 _ rfl
      have f1_1_1 := F50.out.2.1.fz 1
      have a1_1_2 := F50.out.2.1.cell 2 _ rfl
      have f1_1_2 := F50.out.2.1.fz 2
      have l1_2 := F50.out.2.2.1.lt
      have a1_2_0 := F50.out.2.2.1.cell 0 _ rfl
      have f1_2_0 := F50.out.2.2.1.fz 0
      have a1_2_1 := F50.out.2.2.1.cell 1 _ rfl
      have f1_2_1 := F50.out.2.2.1.fz 1
      have a1_2_2 := F50.out.2.2.1.cell 2 _ rfl
      have f1_2_2 := F50.out.2.2.1.fz 2
      have ne1_0_1 : ¬ w.heap.size = w.heap.size + 1 := by omega
      have ne1_0_2 : ¬ w.heap.size = w.heap.size + 1 + 1 := by omega
      have ne1_1_0 : ¬ w.heap.size + 1 = w.heap.size := by omega
      have ne1_1_2 : ¬ w.heap.size + 1 = w.heap.size + 1 + 1 := by omega
      have ne1_2_0 : ¬ w.heap.size + 1 + 1 = w.heap.size := by omega
      have ne1_2_1 : ¬ w.heap.size + 1 + 1 = w.heap.size + 1 := by omega
      go_wp2
      try rw [Exit.noGoto_ret]
      refine bodyPost_ret (v := .tuple #[.agg #[.string ⟨#[]⟩, .int .i64 0, .bool false], .bool false]) (by simp [results, Tryz.results52, go_sem, World.cell?_setCell_same, World.cell?_setCell_other, *]) rfl ⟨rfl, ?_⟩
      repeat (first | refine Below.setCell ?_ (by first | exact Nat.le_refl _ | (dsimp only; omega)) _ | refine Below.alloc ?_ (by first | exact Nat.le_refl _ | omega | (simp; omega)) _ | refine Below.drew ?_)
      exact F50.out.2.2.2
    | succ g =>
      have F50 := HB
      clear HB
      have n1 : (n : Int) ≤ (many : Int) := by omega
      have HTn := HTT.out n hn (by omega) _ (HJ.out.1 _ _ HJ.out.2 F50.out.2.2.2)
      go_wp2_with fail
      all_goals first | (exfalso; omega) | skip
      refine (HTn).mono ?_
      rintro o21 w21 ⟨a, rfl, dr, bb⟩
      have F51 : Hid (Bk w21 (w.heap.size) [.string s, .int .i64 p, .bool false, .string t, .int .i64 q, .bool false, .bool c] ∧ Bk w21 (w.heap.size + 1) [.string ⟨#[]⟩, .int .i64 0, .bool false] ∧ Bk w21 (w.heap.size + 1 + 1) [.string ⟨#[]⟩, .int .i64 0, .bool false] ∧ Below w.heap.size w w21) := ⟨(F50.out.1).step bb, (F50.out.2.1).step bb, (F50.out.2.2.1).step bb, (F50.out.2.2.2).trans (bb.mono (F50.out.2.2.2).size)⟩
      clear F50
      clear bb
      have DR : Hid (DRow w21 a (cand n)) := dr
      clear dr HTn
      have IB2 : Hid (Bk w21 (w.heap.size) [.string s, .int .i64 p, .bool false, .string t, .int .i64 q, .bool false, .bool c] ∧ Bk w21 (w.heap.size + 1) [.string ⟨#[]⟩, .int .i64 0, .bool false] ∧ Bk w21 (w.heap.size + 1 + 1) [.string ⟨#[]⟩, .int .i64 0, .bool false] ∧ DRow w21 a (cand n) ∧ Below w.heap.size w w21) := ⟨F51.out.1, F51.out.2.1, F51.out.2.2.1, DR.out, F51.out.2.2.2⟩
      clear F51 DR
      go_wp2
      go_loopg [11, 14, 25] len (fun g2 okv _ jv wy => ∃ j : Nat, okv = .bool false ∧ jv = .int .i64 (j : Int) ∧ j + g2 = len ∧ Hid (Bk wy (w.heap.size) [.string s, .int .i64 p, .bool false, .string t, .int .i64 q, .bool false, .bool c] ∧ Bk wy (w.heap.size + 1) [.string ⟨#[]⟩, .int .i64 0, .bool false] ∧ Bk wy (w.heap.size + 1 + 1) [.string ⟨#[]⟩, .int .i64 0, .bool false] ∧ DRow wy a (cand n) ∧ Below w.heap.size w wy) ∧ Hid (((cand n).drop j).find? (hdB c s p t q) = (cand n).find? (hdB c s p t q)))
      case atStart => exact ⟨0, rfl, rfl, by omega, IB2.out, rfl⟩
      case round =>
        obtain ⟨j, rfl, rfl, hj, HB, HF⟩ := hrel
        clear IB2
        cases gk with
        | zero =>
          have j1 : ¬ (j : Int) < (len : Int) := by omega
          have e : (cand n).find? (hdB c s p t q) = none := by
            rw [← HF.out, List.drop_eq_nil_of_le (by have := HL.out n; omega)]
            rfl
          have HS2 : Hid (seekF (hdB c s p t q) cand (n + 1) g = R) := by
            have := HS.out
            unfold seekF at this
            rw [e] at this
            exact this
          clear HS e
          go_wp2
          go_roundg g
          case measure => omega
          case rel => exact ⟨n + 1, rfl, by go_num, by omega, by omega, ⟨HB.out.1, HB.out.2.1, HB.out.2.2.1, HB.out.2.2.2.2⟩, HS2.out⟩
        | succ g2 =>
            have j1 : (j : Int) < (len : Int) := by omega
            have ij : ((j : Int)).toNat = j := by omega
            obtain ⟨d, hd⟩ : ∃ d, (cand n)[j]? = some d := ⟨_, List.getElem?_eq_getElem (by have := HL.out n; omega)⟩
            obtain ⟨d1, d2⟩ := d
            have HH := fun W => shold_is (c := c) HVD.out.1 HVD.out.2 (HV.out n hn (by omega) _ (List.mem_of_getElem? hd)) W
            have HFD : Hid (((cand n).drop j).find? (hdB c s p t q) = if hdB c s p t q (d1, d2) then some (d1, d2) else ((cand n).drop (j + 1)).find? (hdB c s p t q)) := find_drop (hb := hdB c s p t q) hd
            have F80 := HB
            have hdl := HB.out.2.2.2.1.lt
            obtain ⟨ca, cb, cc⟩ := HB.out.2.2.2.1.cell j _ hd
            dsimp only at ca cb cc HH
            clear HB hd
            have lt0_4 := (F80.out.1).lt
            have lt1_4 := (F80.out.2.1).lt
            have lt2_4 := (F80.out.2.2.1).lt
            have lt3_4 := (F80.out.2.2.2.1).lt
            have le4 := (F80.out.2.2.2.2).size
            have F81 : Hid (Bk (wr.alloc (.cells #[.string d1, .int .i64 d2, .bool false] 24)) (w.heap.size) [.string s, .int .i64 p, .bool false, .string t, .int .i64 q, .bool false, .bool c] ∧ Bk (wr.alloc (.cells #[.string d1, .int .i64 d2, .bool false] 24)) (w.heap.size + 1) [.string ⟨#[]⟩, .int .i64 0, .bool false] ∧ Bk (wr.alloc (.cells #[.string d1, .int .i64 d2, .bool false] 24)) (w.heap.size + 1 + 1) [.string ⟨#[]⟩, .int .i64 0, .bool false] ∧ DRow (wr.alloc (.cells #[.string d1, .int .i64 d2, .bool false] 24)) a (cand n) ∧ Bk (wr.alloc (.cells #[.string d1, .int .i64 d2, .bool false] 24)) (wr.heap.size) [.string d1, .int .i64 d2, .bool false] ∧ Below w.heap.size w (wr.alloc (.cells #[.string d1, .int .i64 d2, .bool false] 24))) := ⟨(F80.out.1).step ((Below.refl _ _).alloc (Nat.le_refl _) _), (F80.out.2.1).step ((Below.refl _ _).alloc (Nat.le_refl _) _), (F80.out.2.2.1).step ((Below.refl _ _).alloc (Nat.le_refl _) _), (F80.out.2.2.2.1).step ((Below.refl _ _).alloc (Nat.le_refl _) _), Bk.new3 wr (.string d1) (.int .i64 d2) (.bool false) 24, (F80.out.2.2.2.2).alloc ((F80.out.2.2.2.2).size) _⟩
            clear F80
            go_upto_region 9 with fail
            generalize (wr.alloc (.cells #[.string d1, .int .i64 d2, .bool false] 24)) = w41 at *
            clear ca cb cc
            have l1_0 := F81.out.1.lt
            have a1_0_0 := F81.out.1.cell 0 _ rfl
            have f1_0_0 := F81.out.1.fz 0
            have a1_0_1 := F81.out.1.cell 1 _ rfl
            have f1_0_1 := F81.out.1.fz 1
            have a1_0_2 := F81.out.1.cell 2 _ rfl
            have f1_0_2 := F81.out.1.fz 2
            have a1_0_3 := F81.out.1.cell 3 _ rfl
            have f1_0_3 := F81.out.1.fz 3
            have a1_0_4 := F81.out.1.cell 4 _ rfl
            have f1_0_4 := F81.out.1.fz 4
            have a1_0_5 := F81.out.1.cell 5 _ rfl
            have f1_0_5 := F81.out.1.fz 5
            have a1_0_6 := F81.out.1.cell 6 _ rfl
            have f1_0_6 := F81.out.1.fz 6
            have l1_1 := F81.out.2.1.lt
            have a1_1_0 := F81.out.2.1.cell 0 _ rfl
            have f1_1_0 := F81.out.2.1.fz 0
            have a1_1_1 := F81.out.2.1.cell 1 _ rfl
            have f1_1_1 := F81.out.2.1.fz 1
            have a1_1_2 := F81.out.2.1.cell 2 _ rfl
            have f1_1_2 := F81.out.2.1.fz 2
            have l1_2 := F81.out.2.2.1.lt
            have a1_2_0 := F81.out.2.2.1.cell 0 _ rfl
            have f1_2_0 := F81.out.2.2.1.fz 0
            have a1_2_1 := F81.out.2.2.1.cell 1 _ rfl
            have f1_2_1 := F81.out.2.2.1.fz 1
            have a1_2_2 := F81.out.2.2.1.cell 2 _ rfl
            have f1_2_2 := F81.out.2.2.1.fz 2
            have l1_4 := F81.out.2.2.2.2.1.lt
            have a1_4_0 := F81.out.2.2.2.2.1.cell 0 _ rfl
            have f1_4_0 := F81.out.2.2.2.2.1.fz 0
            have a1_4_1 := F81.out.2.2.2.2.1.cell 1 _ rfl
            have f1_4_1 := F81.out.2.2.2.2.1.fz 1
            have a1_4_2 := F81.out.2.2.2.2.1.cell 2 _ rfl
            have f1_4_2 := F81.out.2.2.2.2.1.fz 2
            have ne1_0_1 : ¬ w.heap.size = w.heap.size + 1 := by omega
            have ne1_0_2 : ¬ w.heap.size = w.heap.size + 1 + 1 := by omega
            have ne1_0_4 : ¬ w.heap.size = wr.heap.size := by omega
            have ne1_1_0 : ¬ w.heap.size + 1 = w.heap.size := by omega
            have ne1_1_2 : ¬ w.heap.size + 1 = w.heap.size + 1 + 1 := by omega
            have ne1_1_4 : ¬ w.heap.size + 1 = wr.heap.size := by omega
            have ne1_2_0 : ¬ w.heap.size + 1 + 1 = w.heap.size := by omega
            have ne1_2_1 : ¬ w.heap.size + 1 + 1 = w.heap.size + 1 := by omega
            have ne1_2_4 : ¬ w.heap.size + 1 + 1 = wr.heap.size := by omega
            have ne1_4_0 : ¬ wr.heap.size = w.heap.size := by omega
            have ne1_4_1 : ¬ wr.heap.size = w.heap.size + 1 := by omega
            have ne1_4_2 : ¬ wr.heap.size = w.heap.size + 1 + 1 := by omega
            go_wp2_with fail
            all_goals first | (exfalso; omega) | skip
            refine (HH _).mono ?_
            rintro o42 w42 ⟨rfl, bb⟩
            have F82 : Hid (Bk w42 (w.heap.size) [.string s, .int .i64 p, .bool false, .string t, .int .i64 q, .bool false, .bool c] ∧ Bk w42 (w.heap.size + 1) [.string ⟨#[]⟩, .int .i64 0, .bool false] ∧ Bk w42 (w.heap.size + 1 + 1) [.string ⟨#[]⟩, .int .i64 0, .bool false] ∧ DRow w42 a (cand n) ∧ Bk w42 (wr.heap.size) [.string d1, .int .i64 d2, .bool false] ∧ Below w.heap.size w w42) := ⟨(F81.out.1).step bb, (F81.out.2.1).step bb, (F81.out.2.2.1).step bb, (F81.out.2.2.2.1).step bb, (F81.out.2.2.2.2.1).step bb, (F81.out.2.2.2.2.2).trans (bb.mono (F81.out.2.2.2.2.2).size)⟩
            clear F81
            clear bb
            clear l1_0 a1_0_0 f1_0_0 a1_0_1 f1_0_1 a1_0_2 f1_0_2 a1_0_3 f1_0_3 a1_0_4 f1_0_4 a1_0_5 f1_0_5 a1_0_6 f1_0_6 l1_1 a1_1_0 f1_1_0 a1_1_1 f1_1_1 a1_1_2 f1_1_2 l1_2 a1_2_0 f1_2_0 a1_2_1 f1_2_1 a1_2_2 f1_2_2 l1_4 a1_4_0 f1_4_0 a1_4_1 f1_4_1 a1_4_2 f1_4_2
            generalize hdB c s p t q (d1, d2) = r at *
            cases r with
            | true =>
                have e : (cand n).find? (hdB c s p t q) = some (d1, d2) := by
                  rw [← HF.out, HFD.out]
                  rfl
                have e2 : R = some (d1, d2) := by
                  have := HS.out
                  unfold seekF at this
                  rw [e] at this
                  exact this.symm
                subst e2
                clear e HS
                have l2_0 := F82.out.1.lt
                have a2_0_0 := F82.out.1.cell 0 _ rfl
                have f2_0_0 := F82.out.1.fz 0
                have a2_0_1 := F82.out.1.cell 1 _ rfl
                have f2_0_1 := F82.out.1.fz 1
                have a2_0_2 := F82.out.1.cell 2 _ rfl
                have f2_0_2 := F82.out.1.fz 2
                have a2_0_3 := F82.out.1.cell 3 _ rfl
                have f2_0_3 := F82.out.1.fz 3
                have a2_0_4 := F82.out.1.cell 4 _ rfl
                have f2_0_4 := F82.out.1.fz 4
                have a2_0_5 := F82.out.1.cell 5 _ rfl
                have f2_0_5 := F82.out.1.fz 5
                have a2_0_6 := F82.out.1.cell 6 _ rfl
                have f2_0_6 := F82.out.1.fz 6
                have l2_1 := F82.out.2.1.lt
                have a2_1_0 := F82.out.2.1.cell 0 _ rfl
                have f2_1_0 := F82.out.2.1.fz 0
                have a2_1_1 := F82.out.2.1.cell 1 _ rfl
                have f2_1_1 := F82.out.2.1.fz 1
                have a2_1_2 := F82.out.2.1.cell 2 _ rfl
                have f2_1_2 := F82.out.2.1.fz 2
                have l2_2 := F82.out.2.2.1.lt
                have a2_2_0 := F82.out.2.2.1.cell 0 _ rfl
                have f2_2_0 := F82.out.2.2.1.fz 0
                have a2_2_1 := F82.out.2.2.1.cell 1 _ rfl
                have f2_2_1 := F82.out.2.2.1.fz 1
                have a2_2_2 := F82.out.2.2.1.cell 2 _ rfl
                have f2_2_2 := F82.out.2.2.1.fz 2
                have l2_4 := F82.out.2.2.2.2.1.lt
                have a2_4_0 := F82.out.2.2.2.2.1.cell 0 _ rfl
                have f2_4_0 := F82.out.2.2.2.2.1.fz 0
                have a2_4_1 := F82.out.2.2.2.2.1.cell 1 _ rfl
                have f2_4_1 := F82.out.2.2.2.2.1.fz 1
                have a2_4_2 := F82.out.2.2.2.2.1.cell 2 _ rfl
                have f2_4_2 := F82.out.2.2.2.2.1.fz 2
                have ne2_0_1 : ¬ w.heap.size = w.heap.size + 1 := by omega
                have ne2_0_2 : ¬ w.heap.size = w.heap.size + 1 + 1 := by omega
                have ne2_0_4 : ¬ w.heap.size = wr.heap.size := by omega
                have ne2_1_0 : ¬ w.heap.size + 1 = w.heap.size := by omega
                have ne2_1_2 : ¬ w.heap.size + 1 = w.heap.size + 1 + 1 := by omega
                have ne2_1_4 : ¬ w.heap.size + 1 = wr.heap.size := by omega
                have ne2_2_0 : ¬ w.heap.size + 1 + 1 = w.heap.size := by omega
                have ne2_2_1 : ¬ w.heap.size + 1 + 1 = w.heap.size + 1 := by omega
                have ne2_2_4 : ¬ w.heap.size + 1 + 1 = wr.heap.size := by omega
                have ne2_4_0 : ¬ wr.heap.size = w.heap.size := by omega
                have ne2_4_1 : ¬ wr.heap.size = w.heap.size + 1 := by omega
                have ne2_4_2 : ¬ wr.heap.size = w.heap.size + 1 + 1 := by omega
                go_wp2
                try rw [Exit.noGoto_ret]
                refine bodyPost_ret (v := .tuple #[.agg #[.string d1, .int .i64 d2, .bool false], .bool true]) (by simp [results, Tryz.results52, go_sem, World.cell?_setCell_same, World.cell?_setCell_other, *]) rfl ⟨rfl, ?_⟩
                repeat (first | refine Below.setCell ?_ (by first | exact Nat.le_refl _ | (dsimp only; omega)) _ | refine Below.alloc ?_ (by first | exact Nat.le_refl _ | omega | (simp; omega)) _ | refine Below.drew ?_)
                exact F82.out.2.2.2.2.2
            | false =>
                have HF2 : Hid (((cand n).drop (j + 1)).find? (hdB c s p t q) = (cand n).find? (hdB c s p t q)) := by
                  show _ = _
                  rw [← HF.out, HFD.out]
                  rfl
                clear HF HFD
                go_wp2
                go_roundg g2
                case measure => omega
                case rel => exact ⟨j + 1, rfl, by go_num, by omega, ⟨F82.out.1, F82.out.2.1, F82.out.2.2.1, F82.out.2.2.2.1, F82.out.2.2.2.2.2⟩, HF2.out⟩
theorem Bk.setC {W : World} {K : Nat} {l : List Value} (h : Bk W K l) {g : Nat} (hne : ¬ K = g) (i : Nat) (v : Value) : Bk (W.setCell ⟨g, i, none⟩ v) K l :=
 ⟨by rw [World.size_setCell]; exact h.lt, fun j x q => (World.cell?_setCell_other W ⟨g, i, none⟩ ⟨K, j, none⟩ v (by intro z; injection z with z _ _; exact hne z.symm)).trans (h.cell j x q), fun j => by rw [World.frozen?_setCell]; exact h.fz j⟩
theorem ssi_none {s t : ByteArray} {p q r : Int} {c : Bool} (h0 : 0 < s.size) (q1 : ¬ 0 ≤ r) (HC : ∀ W, Calls Tryz.prog 32 #[.agg #[.string s, .int .i64 p, .bool false], .agg #[.string t, .int .i64 q, .bool false]] W fun e w' => e = .returned (.tuple #[.int .i64 r, .nilIface]) ∧ Below W.heap.size W w') (HL : ∀ W, Calls Tryz.prog 33 #[.agg #[.string s, .int .i64 p, .bool false, .string t, .int .i64 q, .bool false, .bool c]] W fun e w' => e = .returned (.tuple #[.agg #[.string ⟨#[]⟩, .int .i64 0, .bool false], .bool false]) ∧ Below W.heap.size W w') (w : World) :
 Calls Tryz.prog 16 #[.agg #[.string s, .int .i64 p, .bool false], .agg #[.string t, .int .i64 q, .bool false], .bool c] w fun x w' => x = .returned (.tuple #[.agg #[.string ⟨#[]⟩, .int .i64 0, .bool false], .iface 69 (.int .i64 4)]) ∧ Below w.heap.size w w' := by
 have he : ¬ s.toList = [] := by
  intro z
  have e := empty_false h0
  rw [z] at e
  exact absurd e (by decide)
 have F0 : Hid (Bk (((w.alloc (.cells #[.string s, .int .i64 p, .bool false] 24)).alloc (.cells #[.string t, .int .i64 q, .bool false] 24)).alloc (.cells #[.string ⟨#[]⟩, .int .i64 0, .bool false] 24)) (w.heap.size) [.string s, .int .i64 p, .bool false] ∧ Bk (((w.alloc (.cells #[.string s, .int .i64 p, .bool false] 24)).alloc (.cells #[.string t, .int .i64 q, .bool false] 24)).alloc (.cells #[.string ⟨#[]⟩, .int .i64 0, .bool false] 24)) (w.heap.size + 1) [.string t, .int .i64 q, .bool false] ∧ Bk (((w.alloc (.cells #[.string s, .int .i64 p, .bool false] 24)).alloc (.cells #[.string t, .int .i64 q, .bool false] 24)).alloc (.cells #[.string ⟨#[]⟩, .int .i64 0, .bool false] 24)) (w.heap.size + 1 + 1) [.string ⟨#[]⟩, .int .i64 0, .bool false] ∧ Below w.heap.size w (((w.alloc (.cells #[.string s, .int .i64 p, .bool false] 24)).alloc (.cells #[.string t, .int .i64 q, .bool false] 24)).alloc (.cells #[.string ⟨#[]⟩, .int .i64 0, .bool false] 24))) := ⟨((Bk.new3 w (.string s) (.int .i64 p) (.bool false) 24).step ((Below.refl _ _).alloc (Nat.le_refl _) _)).step ((Below.refl _ _).alloc (Nat.le_refl _) _), (((by have q := Bk.new3 (w.alloc (.cells #[.string s, .int .i64 p, .bool false] 24)) (.string t) (.int .i64 q) (.bool false) 24; simpa using q) : Bk ((w.alloc (.cells #[.string s, .int .i64 p, .bool false] 24)).alloc (.cells #[.string t, .int .i64 q, .bool false] 24)) (w.heap.size + 1) [.string t, .int .i64 q, .bool false])).step ((Below.refl _ _).alloc (Nat.le_refl _) _), ((by have q := Bk.new3 ((w.alloc (.cells #[.string s, .int .i64 p, .bool false] 24)).alloc (.cells #[.string t, .int .i64 q, .bool false] 24)) (.string ⟨#[]⟩) (.int .i64 0) (.bool false) 24; simpa using q) : Bk (((w.alloc (.cells #[.string s, .int .i64 p, .bool false] 24)).alloc (.cells #[.string t, .int .i64 q, .bool false] 24)).alloc (.cells #[.string ⟨#[]⟩, .int .i64 0, .bool false] 24)) (w.heap.size + 1 + 1) [.string ⟨#[]⟩, .int .i64 0, .bool false]), ((((Below.refl w.heap.size w)).alloc (Nat.le_refl _) _).alloc ((((Below.refl w.heap.size w)).alloc (Nat.le_refl _) _).size) _).alloc (((((Below.refl w.heap.size w)).alloc (Nat.le_refl _) _).alloc ((((Below.refl w.heap.size w)).alloc (Nat.le_refl _) _).size) _).size) _⟩
 go_enter Tryz.func16, Tryz.ntmps16
 go_upto_region 1 with fail
 generalize (((w.alloc (.cells #[.string s, .int .i64 p, .bool false] 24)).alloc (.cells #[.string t, .int .i64 q, .bool false] 24)).alloc (.cells #[.string ⟨#[]⟩, .int .i64 0, .bool false] 24)) = w1 at *
 have l1_0 := F0.out.1.lt
 have a1_0_0 := F0.out.1.cell 0 _ rfl
 have f1_0_0 := F0.out.1.fz 0
 have a1_0_1 := F0.out.1.cell 1 _ rfl
 have f1_0_1 := F0.out.1.fz 1
 have a1_0_2 := F0.out.1.cell 2 _ rfl
 have f1_0_2 := F0.out.1.fz 2
 have l1_1 := F0.out.2.1.lt
 have a1_1_0 := F0.out.2.1.cell 0 _ rfl
 have f1_1_0 := F0.out.2.1.fz 0
 have a1_1_1 := F0.out.2.1.cell 1 _ rfl
 have f1_1_1 := F0.out.2.1.fz 1
 have a1_1_2 := F0.out.2.1.cell 2 _ rfl
 have f1_1_2 := F0.out.2.1.fz 2
 have l1_2 := F0.out.2.2.1.lt
 have a1_2_0 := F0.out.2.2.1.cell 0 _ rfl
 have f1_2_0 := F0.out.2.2.1.fz 0
 have a1_2_1 := F0.out.2.2.1.cell 1 _ rfl
 have f1_2_1 := F0.out.2.2.1.fz 1
 have a1_2_2 := F0.out.2.2.1.cell 2 _ rfl
 have f1_2_2 := F0.out.2.2.1.fz 2
 have ne1_0_1 : ¬ w.heap.size = w.heap.size + 1 := by omega
 have ne1_0_2 : ¬ w.heap.size = w.heap.size + 1 + 1 := by omega
 have ne1_1_0 : ¬ w.heap.size + 1 = w.heap.size := by omega
 have ne1_1_2 : ¬ w.heap.size + 1 = w.heap.size + 1 + 1 := by omega
 have ne1_2_0 : ¬ w.heap.size + 1 + 1 = w.heap.size := by omega
 have ne1_2_1 : ¬ w.heap.size + 1 + 1 = w.heap.size + 1 := by omega
 go_wp2_with fail
 all_goals first | (exfalso; omega) | skip
 refine (HC _).mono ?_
 rintro o2 w2 ⟨rfl, bb⟩
 have F1 : Hid (Bk w2 (w.heap.size) [.string s, .int .i64 p, .bool false] ∧ Bk w2 (w.heap.size + 1) [.string t, .int .i64 q, .bool false] ∧ Bk w2 (w.heap.size + 1 + 1) [.string ⟨#[]⟩, .int .i64 0, .bool false] ∧ Below w.heap.size w w2) := ⟨(F0.out.1).step bb, (F0.out.2.1).step bb, (F0.out.2.2.1).step bb, (F0.out.2.2.2).trans (bb.mono (F0.out.2.2.2).size)⟩
 clear F0
 clear bb
 clear l1_0 a1_0_0 f1_0_0 a1_0_1 f1_0_1 a1_0_2 f1_0_2 l1_1 a1_1_0 f1_1_0 a1_1_1 f1_1_1 a1_1_2 f1_1_2 l1_2 a1_2_0 f1_2_0 a1_2_1 f1_2_1 a1_2_2 f1_2_2
 have l2_0 := F1.out.1.lt
 have a2_0_0 := F1.out.1.cell 0 _ rfl
 have f2_0_0 := F1.out.1.fz 0
 have a2_0_1 := F1.out.1.cell 1 _ rfl
 have f2_0_1 := F1.out.1.fz 1
 have a2_0_2 := F1.out.1.cell 2 _ rfl
 have f2_0_2 := F1.out.1.fz 2
 have l2_1 := F1.out.2.1.lt
 have a2_1_0 := F1.out.2.1.cell 0 _ rfl
 have f2_1_0 := F1.out.2.1.fz 0
 have a2_1_1 := F1.out.2.1.cell 1 _ rfl
 have f2_1_1 := F1.out.2.1.fz 1
 have a2_1_2 := F1.out.2.1.cell 2 _ rfl
 have f2_1_2 := F1.out.2.1.fz 2
 have l2_2 := F1.out.2.2.1.lt
 have a2_2_0 := F1.out.2.2.1.cell 0 _ rfl
 have f2_2_0 := F1.out.2.2.1.fz 0
 have a2_2_1 := F1.out.2.2.1.cell 1 _ rfl
 have f2_2_1 := F1.out.2.2.1.fz 1
 have a2_2_2 := F1.out.2.2.1.cell 2 _ rfl
 have f2_2_2 := F1.out.2.2.1.fz 2
 have ne2_0_1 : ¬ w.heap.size = w.heap.size + 1 := by omega
 have ne2_0_2 : ¬ w.heap.size = w.heap.size + 1 + 1 := by omega
 have ne2_1_0 : ¬ w.heap.size + 1 = w.heap.size := by omega
 have ne2_1_2 : ¬ w.heap.size + 1 = w.heap.size + 1 + 1 := by omega
 have ne2_2_0 : ¬ w.heap.size + 1 + 1 = w.heap.size := by omega
 have ne2_2_1 : ¬ w.heap.size + 1 + 1 = w.heap.size + 1 := by omega
 have lt0_3 := (F1.out.1).lt
 have lt1_3 := (F1.out.2.1).lt
 have lt2_3 := (F1.out.2.2.1).lt
 have le3 := (F1.out.2.2.2).size
 have F2 : Hid (Bk (w2.alloc (.cells #[.string s, .int .i64 p, .bool false, .string t, .int .i64 q, .bool false, .bool c] 59)) (w.heap.size) [.string s, .int .i64 p, .bool false] ∧ Bk (w2.alloc (.cells #[.string s, .int .i64 p, .bool false, .string t, .int .i64 q, .bool false, .bool c] 59)) (w.heap.size + 1) [.string t, .int .i64 q, .bool false] ∧ Bk (w2.alloc (.cells #[.string s, .int .i64 p, .bool false, .string t, .int .i64 q, .bool false, .bool c] 59)) (w.heap.size + 1 + 1) [.string ⟨#[]⟩, .int .i64 0, .bool false] ∧ Bk (w2.alloc (.cells #[.string s, .int .i64 p, .bool false, .string t, .int .i64 q, .bool false, .bool c] 59)) (w2.heap.size) [.string s, .int .i64 p, .bool false, .string t, .int .i64 q, .bool false, .bool c] ∧ Below w.heap.size w (w2.alloc (.cells #[.string s, .int .i64 p, .bool false, .string t, .int .i64 q, .bool false, .bool c] 59))) := ⟨(F1.out.1).step ((Below.refl _ _).alloc (Nat.le_refl _) _), (F1.out.2.1).step ((Below.refl _ _).alloc (Nat.le_refl _) _), (F1.out.2.2.1).step ((Below.refl _ _).alloc (Nat.le_refl _) _), Bk.new7 w2 (.string s) (.int .i64 p) (.bool false) (.string t) (.int .i64 q) (.bool false) (.bool c) 59, (F1.out.2.2.2).alloc ((F1.out.2.2.2).size) _⟩
 clear F1
 go_upto_region 5 with fail
 generalize (w2.alloc (.cells #[.string s, .int .i64 p, .bool false, .string t, .int .i64 q, .bool false, .bool c] 59)) = w3 at *
 clear l2_0 a2_0_0 f2_0_0 a2_0_1 f2_0_1 a2_0_2 f2_0_2 l2_1 a2_1_0 f2_1_0 a2_1_1 f2_1_1 a2_1_2 f2_1_2 l2_2 a2_2_0 f2_2_0 a2_2_1 f2_2_1 a2_2_2 f2_2_2
 have l3_0 := F2.out.1.lt
 have a3_0_0 := F2.out.1.cell 0 _ rfl
 have f3_0_0 := F2.out.1.fz 0
 have a3_0_1 := F2.out.1.cell 1 _ rfl
 have f3_0_1 := F2.out.1.fz 1
 have a3_0_2 := F2.out.1.cell 2 _ rfl
 have f3_0_2 := F2.out.1.fz 2
 have l3_1 := F2.out.2.1.lt
 have a3_1_0 := F2.out.2.1.cell 0 _ rfl
 have f3_1_0 := F2.out.2.1.fz 0
 have a3_1_1 := F2.out.2.1.cell 1 _ rfl
 have f3_1_1 := F2.out.2.1.fz 1
 have a3_1_2 := F2.out.2.1.cell 2 _ rfl
 have f3_1_2 := F2.out.2.1.fz 2
 have l3_2 := F2.out.2.2.1.lt
 have a3_2_0 := F2.out.2.2.1.cell 0 _ rfl
 have f3_2_0 := F2.out.2.2.1.fz 0
 have a3_2_1 := F2.out.2.2.1.cell 1 _ rfl
 have f3_2_1 := F2.out.2.2.1.fz 1
 have a3_2_2 := F2.out.2.2.1.cell 2 _ rfl
 have f3_2_2 := F2.out.2.2.1.fz 2
 have l3_3 := F2.out.2.2.2.1.lt
 have a3_3_0 := F2.out.2.2.2.1.cell 0 _ rfl
 have f3_3_0 := F2.out.2.2.2.1.fz 0
 have a3_3_1 := F2.out.2.2.2.1.cell 1 _ rfl
 have f3_3_1 := F2.out.2.2.2.1.fz 1
 have a3_3_2 := F2.out.2.2.2.1.cell 2 _ rfl
 have f3_3_2 := F2.out.2.2.2.1.fz 2
 have a3_3_3 := F2.out.2.2.2.1.cell 3 _ rfl
 have f3_3_3 := F2.out.2.2.2.1.fz 3
 have a3_3_4 := F2.out.2.2.2.1.cell 4 _ rfl
 have f3_3_4 := F2.out.2.2.2.1.fz 4
 have a3_3_5 := F2.out.2.2.2.1.cell 5 _ rfl
 have f3_3_5 := F2.out.2.2.2.1.fz 5
 have a3_3_6 := F2.out.2.2.2.1.cell 6 _ rfl
 have f3_3_6 := F2.out.2.2.2.1.fz 6
 have ne3_0_1 : ¬ w.heap.size = w.heap.size + 1 := by omega
 have ne3_0_2 : ¬ w.heap.size = w.heap.size + 1 + 1 := by omega
 have ne3_0_3 : ¬ w.heap.size = w2.heap.size := by omega
 have ne3_1_0 : ¬ w.heap.size + 1 = w.heap.size := by omega
 have ne3_1_2 : ¬ w.heap.size + 1 = w.heap.size + 1 + 1 := by omega
 have ne3_1_3 : ¬ w.heap.size + 1 = w2.heap.size := by omega
 have ne3_2_0 : ¬ w.heap.size + 1 + 1 = w.heap.size := by omega
 have ne3_2_1 : ¬ w.heap.size + 1 + 1 = w.heap.size + 1 := by omega
 have ne3_2_3 : ¬ w.heap.size + 1 + 1 = w2.heap.size := by omega
 have ne3_3_0 : ¬ w2.heap.size = w.heap.size := by omega
 have ne3_3_1 : ¬ w2.heap.size = w.heap.size + 1 := by omega
 have ne3_3_2 : ¬ w2.heap.size = w.heap.size + 1 + 1 := by omega
 go_wp2_with fail
 all_goals first | (exfalso; omega) | skip
 refine (HL _).mono ?_
 rintro o4 w4 ⟨rfl, bb⟩
 have F3 : Hid (Bk w4 (w.heap.size) [.string s, .int .i64 p, .bool false] ∧ Bk w4 (w.heap.size + 1) [.string t, .int .i64 q, .bool false] ∧ Bk w4 (w.heap.size + 1 + 1) [.string ⟨#[]⟩, .int .i64 0, .bool false] ∧ Bk w4 (w2.heap.size) [.string s, .int .i64 p, .bool false, .string t, .int .i64 q, .bool false, .bool c] ∧ Below w.heap.size w w4) := ⟨(F2.out.1).step bb, (F2.out.2.1).step bb, (F2.out.2.2.1).step bb, (F2.out.2.2.2.1).step bb, (F2.out.2.2.2.2).trans (bb.mono (F2.out.2.2.2.2).size)⟩
 clear F2
 clear bb
 clear l3_0 a3_0_0 f3_0_0 a3_0_1 f3_0_1 a3_0_2 f3_0_2 l3_1 a3_1_0 f3_1_0 a3_1_1 f3_1_1 a3_1_2 f3_1_2 l3_2 a3_2_0 f3_2_0 a3_2_1 f3_2_1 a3_2_2 f3_2_2 l3_3 a3_3_0 f3_3_0 a3_3_1 f3_3_1 a3_3_2 f3_3_2 a3_3_3 f3_3_3 a3_3_4 f3_3_4 a3_3_5 f3_3_5 a3_3_6 f3_3_6
 have lt0_4 := (F3.out.1).lt
 have lt1_4 := (F3.out.2.1).lt
 have lt2_4 := (F3.out.2.2.1).lt
 have lt3_4 := (F3.out.2.2.2.1).lt
 have le4 := (F3.out.2.2.2.2).size
 have F4 : Hid (Bk (w4.alloc (.cells #[.string ⟨#[]⟩, .int .i64 0, .bool false] 24)) (w.heap.size) [.string s, .int .i64 p, .bool false] ∧ Bk (w4.alloc (.cells #[.string ⟨#[]⟩, .int .i64 0, .bool false] 24)) (w.heap.size + 1) [.string t, .int .i64 q, .bool false] ∧ Bk (w4.alloc (.cells #[.string ⟨#[]⟩, .int .i64 0, .bool false] 24)) (w.heap.size + 1 + 1) [.string ⟨#[]⟩, .int .i64 0, .bool false] ∧ Bk (w4.alloc (.cells #[.string ⟨#[]⟩, .int .i64 0, .bool false] 24)) (w2.heap.size) [.string s, .int .i64 p, .bool false, .string t, .int .i64 q, .bool false, .bool c] ∧ Bk (w4.alloc (.cells #[.string ⟨#[]⟩, .int .i64 0, .bool false] 24)) (w4.heap.size) [.string ⟨#[]⟩, .int .i64 0, .bool false] ∧ Below w.heap.size w (w4.alloc (.cells #[.string ⟨#[]⟩, .int .i64 0, .bool false] 24))) := ⟨(F3.out.1).step ((Below.refl _ _).alloc (Nat.le_refl _) _), (F3.out.2.1).step ((Below.refl _ _).alloc (Nat.le_refl _) _), (F3.out.2.2.1).step ((Below.refl _ _).alloc (Nat.le_refl _) _), (F3.out.2.2.2.1).step ((Below.refl _ _).alloc (Nat.le_refl _) _), Bk.new3 w4 (.string ⟨#[]⟩) (.int .i64 0) (.bool false) 24, (F3.out.2.2.2.2).alloc ((F3.out.2.2.2.2).size) _⟩
 clear F3
 go_upto_region 6 with fail
 generalize (w4.alloc (.cells #[.string ⟨#[]⟩, .int .i64 0, .bool false] 24)) = w5 at *
 have l4_0 := F4.out.1.lt
 have a4_0_0 := F4.out.1.cell 0 _ rfl
 have f4_0_0 := F4.out.1.fz 0
 have a4_0_1 := F4.out.1.cell 1 _ rfl
 have f4_0_1 := F4.out.1.fz 1
 have a4_0_2 := F4.out.1.cell 2 _ rfl
 have f4_0_2 := F4.out.1.fz 2
 have l4_1 := F4.out.2.1.lt
 have a4_1_0 := F4.out.2.1.cell 0 _ rfl
 have f4_1_0 := F4.out.2.1.fz 0
 have a4_1_1 := F4.out.2.1.cell 1 _ rfl
 have f4_1_1 := F4.out.2.1.fz 1
 have a4_1_2 := F4.out.2.1.cell 2 _ rfl
 have f4_1_2 := F4.out.2.1.fz 2
 have l4_2 := F4.out.2.2.1.lt
 have a4_2_0 := F4.out.2.2.1.cell 0 _ rfl
 have f4_2_0 := F4.out.2.2.1.fz 0
 have a4_2_1 := F4.out.2.2.1.cell 1 _ rfl
 have f4_2_1 := F4.out.2.2.1.fz 1
 have a4_2_2 := F4.out.2.2.1.cell 2 _ rfl
 have f4_2_2 := F4.out.2.2.1.fz 2
 have l4_3 := F4.out.2.2.2.1.lt
 have a4_3_0 := F4.out.2.2.2.1.cell 0 _ rfl
 have f4_3_0 := F4.out.2.2.2.1.fz 0
 have a4_3_1 := F4.out.2.2.2.1.cell 1 _ rfl
 have f4_3_1 := F4.out.2.2.2.1.fz 1
 have a4_3_2 := F4.out.2.2.2.1.cell 2 _ rfl
 have f4_3_2 := F4.out.2.2.2.1.fz 2
 have a4_3_3 := F4.out.2.2.2.1.cell 3 _ rfl
 have f4_3_3 := F4.out.2.2.2.1.fz 3
 have a4_3_4 := F4.out.2.2.2.1.cell 4 _ rfl
 have f4_3_4 := F4.out.2.2.2.1.fz 4
 have a4_3_5 := F4.out.2.2.2.1.cell 5 _ rfl
 have f4_3_5 := F4.out.2.2.2.1.fz 5
 have a4_3_6 := F4.out.2.2.2.1.cell 6 _ rfl
 have f4_3_6 := F4.out.2.2.2.1.fz 6
 have l4_4 := F4.out.2.2.2.2.1.lt
 have a4_4_0 := F4.out.2.2.2.2.1.cell 0 _ rfl
 have f4_4_0 := F4.out.2.2.2.2.1.fz 0
 have a4_4_1 := F4.out.2.2.2.2.1.cell 1 _ rfl
 have f4_4_1 := F4.out.2.2.2.2.1.fz 1
 have a4_4_2 := F4.out.2.2.2.2.1.cell 2 _ rfl
 have f4_4_2 := F4.out.2.2.2.2.1.fz 2
 have ne4_0_1 : ¬ w.heap.size = w.heap.size + 1 := by omega
 have ne4_0_2 : ¬ w.heap.size = w.heap.size + 1 + 1 := by omega
 have ne4_0_3 : ¬ w.heap.size = w2.heap.size := by omega
 have ne4_0_4 : ¬ w.heap.size = w4.heap.size := by omega
 have ne4_1_0 : ¬ w.heap.size + 1 = w.heap.size := by omega
 have ne4_1_2 : ¬ w.heap.size + 1 = w.heap.size + 1 + 1 := by omega
 have ne4_1_3 : ¬ w.heap.size + 1 = w2.heap.size := by omega
 have ne4_1_4 : ¬ w.heap.size + 1 = w4.heap.size := by omega
 have ne4_2_0 : ¬ w.heap.size + 1 + 1 = w.heap.size := by omega
 have ne4_2_1 : ¬ w.heap.size + 1 + 1 = w.heap.size + 1 := by omega
 have ne4_2_3 : ¬ w.heap.size + 1 + 1 = w2.heap.size := by omega
 have ne4_2_4 : ¬ w.heap.size + 1 + 1 = w4.heap.size := by omega
 have ne4_3_0 : ¬ w2.heap.size = w.heap.size := by omega
 have ne4_3_1 : ¬ w2.heap.size = w.heap.size + 1 := by omega
 have ne4_3_2 : ¬ w2.heap.size = w.heap.size + 1 + 1 := by omega
 have ne4_3_4 : ¬ w2.heap.size = w4.heap.size := by omega
 have ne4_4_0 : ¬ w4.heap.size = w.heap.size := by omega
 have ne4_4_1 : ¬ w4.heap.size = w.heap.size + 1 := by omega
 have ne4_4_2 : ¬ w4.heap.size = w.heap.size + 1 + 1 := by omega
 have ne4_4_3 : ¬ w4.heap.size = w2.heap.size := by omega
 go_wp2
 refine bodyPost_ret (v := .tuple #[.agg #[.string ⟨#[]⟩, .int .i64 0, .bool false], .iface 69 (.int .i64 4)]) (by simp [results, Tryz.results16, go_sem, World.cell?_setCell_same, World.cell?_setCell_other, *]) rfl ⟨rfl, ?_⟩
 repeat (first | refine Below.setCell ?_ (by first | exact Nat.le_refl _ | (dsimp only; omega)) _ | refine Below.alloc ?_ (by first | exact Nat.le_refl _ | omega | (simp; omega)) _ | refine Below.drew ?_)
 exact F4.out.2.2.2.2.2
theorem ssi_ok {s t : ByteArray} {p q r : Int} {c : Bool} {d1 : ByteArray} {d2 : Int} (h0 : 0 < s.size) (q1 : ¬ 0 ≤ r) (HC : ∀ W, Calls Tryz.prog 32 #[.agg #[.string s, .int .i64 p, .bool false], .agg #[.string t, .int .i64 q, .bool false]] W fun e w' => e = .returned (.tuple #[.int .i64 r, .nilIface]) ∧ Below W.heap.size W w') (HL : ∀ W, Calls Tryz.prog 33 #[.agg #[.string s, .int .i64 p, .bool false, .string t, .int .i64 q, .bool false, .bool c]] W fun e w' => e = .returned (.tuple #[.agg #[.string d1, .int .i64 d2, .bool false], .bool true]) ∧ Below W.heap.size W w') (w : World) :
 Calls Tryz.prog 16 #[.agg #[.string s, .int .i64 p, .bool false], .agg #[.string t, .int .i64 q, .bool false], .bool c] w fun x w' => x = .returned (.tuple #[.agg #[.string d1, .int .i64 d2, .bool false], .nilIface]) ∧ Below w.heap.size w w' := by
 have he : ¬ s.toList = [] := by
  intro z
  have e := empty_false h0
  rw [z] at e
  exact absurd e (by decide)
 have F0 : Hid (Bk (((w.alloc (.cells #[.string s, .int .i64 p, .bool false] 24)).alloc (.cells #[.string t, .int .i64 q, .bool false] 24)).alloc (.cells #[.string ⟨#[]⟩, .int .i64 0, .bool false] 24)) (w.heap.size) [.string s, .int .i64 p, .bool false] ∧ Bk (((w.alloc (.cells #[.string s, .int .i64 p, .bool false] 24)).alloc (.cells #[.string t, .int .i64 q, .bool false] 24)).alloc (.cells #[.string ⟨#[]⟩, .int .i64 0, .bool false] 24)) (w.heap.size + 1) [.string t, .int .i64 q, .bool false] ∧ Bk (((w.alloc (.cells #[.string s, .int .i64 p, .bool false] 24)).alloc (.cells #[.string t, .int .i64 q, .bool false] 24)).alloc (.cells #[.string ⟨#[]⟩, .int .i64 0, .bool false] 24)) (w.heap.size + 1 + 1) [.string ⟨#[]⟩, .int .i64 0, .bool false] ∧ Below w.heap.size w (((w.alloc (.cells #[.string s, .int .i64 p, .bool false] 24)).alloc (.cells #[.string t, .int .i64 q, .bool false] 24)).alloc (.cells #[.string ⟨#[]⟩, .int .i64 0, .bool false] 24))) := ⟨((Bk.new3 w (.string s) (.int .i64 p) (.bool false) 24).step ((Below.refl _ _).alloc (Nat.le_refl _) _)).step ((Below.refl _ _).alloc (Nat.le_refl _) _), (((by have q := Bk.new3 (w.alloc (.cells #[.string s, .int .i64 p, .bool false] 24)) (.string t) (.int .i64 q) (.bool false) 24; simpa using q) : Bk ((w.alloc (.cells #[.string s, .int .i64 p, .bool false] 24)).alloc (.cells #[.string t, .int .i64 q, .bool false] 24)) (w.heap.size + 1) [.string t, .int .i64 q, .bool false])).step ((Below.refl _ _).alloc (Nat.le_refl _) _), ((by have q := Bk.new3 ((w.alloc (.cells #[.string s, .int .i64 p, .bool false] 24)).alloc (.cells #[.string t, .int .i64 q, .bool false] 24)) (.string ⟨#[]⟩) (.int .i64 0) (.bool false) 24; simpa using q) : Bk (((w.alloc (.cells #[.string s, .int .i64 p, .bool false] 24)).alloc (.cells #[.string t, .int .i64 q, .bool false] 24)).alloc (.cells #[.string ⟨#[]⟩, .int .i64 0, .bool false] 24)) (w.heap.size + 1 + 1) [.string ⟨#[]⟩, .int .i64 0, .bool false]), ((((Below.refl w.heap.size w)).alloc (Nat.le_refl _) _).alloc ((((Below.refl w.heap.size w)).alloc (Nat.le_refl _) _).size) _).alloc (((((Below.refl w.heap.size w)).alloc (Nat.le_refl _) _).alloc ((((Below.refl w.heap.size w)).alloc (Nat.le_refl _) _).size) _).size) _⟩
 go_enter Tryz.func16, Tryz.ntmps16
 go_upto_region 1 with fail
 generalize (((w.alloc (.cells #[.string s, .int .i64 p, .bool false] 24)).alloc (.cells #[.string t, .int .i64 q, .bool false] 24)).alloc (.cells #[.string ⟨#[]⟩, .int .i64 0, .bool false] 24)) = w1 at *
 have l1_0 := F0.out.1.lt
 have a1_0_0 := F0.out.1.cell 0 _ rfl
 have f1_0_0 := F0.out.1.fz 0
 have a1_0_1 := F0.out.1.cell 1 _ rfl
 have f1_0_1 := F0.out.1.fz 1
 have a1_0_2 := F0.out.1.cell 2 _ rfl
 have f1_0_2 := F0.out.1.fz 2
 have l1_1 := F0.out.2.1.lt
 have a1_1_0 := F0.out.2.1.cell 0 _ rfl
 have f1_1_0 := F0.out.2.1.fz 0
 have a1_1_1 := F0.out.2.1.cell 1 _ rfl
 have f1_1_1 := F0.out.2.1.fz 1
 have a1_1_2 := F0.out.2.1.cell 2 _ rfl
 have f1_1_2 := F0.out.2.1.fz 2
 have l1_2 := F0.out.2.2.1.lt
 have a1_2_0 := F0.out.2.2.1.cell 0 _ rfl
 have f1_2_0 := F0.out.2.2.1.fz 0
 have a1_2_1 := F0.out.2.2.1.cell 1 _ rfl
 have f1_2_1 := F0.out.2.2.1.fz 1
 have a1_2_2 := F0.out.2.2.1.cell 2 _ rfl
 have f1_2_2 := F0.out.2.2.1.fz 2
 have ne1_0_1 : ¬ w.heap.size = w.heap.size + 1 := by omega
 have ne1_0_2 : ¬ w.heap.size = w.heap.size + 1 + 1 := by omega
 have ne1_1_0 : ¬ w.heap.size + 1 = w.heap.size := by omega
 have ne1_1_2 : ¬ w.heap.size + 1 = w.heap.size + 1 + 1 := by omega
 have ne1_2_0 : ¬ w.heap.size + 1 + 1 = w.heap.size := by omega
 have ne1_2_1 : ¬ w.heap.size + 1 + 1 = w.heap.size + 1 := by omega
 go_wp2_with fail
 all_goals first | (exfalso; omega) | skip
 refine (HC _).mono ?_
 rintro o2 w2 ⟨rfl, bb⟩
 have F1 : Hid (Bk w2 (w.heap.size) [.string s, .int .i64 p, .bool false] ∧ Bk w2 (w.heap.size + 1) [.string t, .int .i64 q, .bool false] ∧ Bk w2 (w.heap.size + 1 + 1) [.string ⟨#[]⟩, .int .i64 0, .bool false] ∧ Below w.heap.size w w2) := ⟨(F0.out.1).step bb, (F0.out.2.1).step bb, (F0.out.2.2.1).step bb, (F0.out.2.2.2).trans (bb.mono (F0.out.2.2.2).size)⟩
 clear F0
 clear bb
 clear l1_0 a1_0_0 f1_0_0 a1_0_1 f1_0_1 a1_0_2 f1_0_2 l1_1 a1_1_0 f1_1_0 a1_1_1 f1_1_1 a1_1_2 f1_1_2 l1_2 a1_2_0 f1_2_0 a1_2_1 f1_2_1 a1_2_2 f1_2_2
 have l2_0 := F1.out.1.lt
 have a2_0_0 := F1.out.1.cell 0 _ rfl
 have f2_0_0 := F1.out.1.fz 0
 have a2_0_1 := F1.out.1.cell 1 _ rfl
 have f2_0_1 := F1.out.1.fz 1
 have a2_0_2 := F1.out.1.cell 2 _ rfl
 have f2_0_2 := F1.out.1.fz 2
 have l2_1 := F1.out.2.1.lt
 have a2_1_0 := F1.out.2.1.cell 0 _ rfl
 have f2_1_0 := F1.out.2.1.fz 0
 have a2_1_1 := F1.out.2.1.cell 1 _ rfl
 have f2_1_1 := F1.out.2.1.fz 1
 have a2_1_2 := F1.out.2.1.cell 2 _ rfl
 have f2_1_2 := F1.out.2.1.fz 2
 have l2_2 := F1.out.2.2.1.lt
 have a2_2_0 := F1.out.2.2.1.cell 0 _ rfl
 have f2_2_0 := F1.out.2.2.1.fz 0
 have a2_2_1 := F1.out.2.2.1.cell 1 _ rfl
 have f2_2_1 := F1.out.2.2.1.fz 1
 have a2_2_2 := F1.out.2.2.1.cell 2 _ rfl
 have f2_2_2 := F1.out.2.2.1.fz 2
 have ne2_0_1 : ¬ w.heap.size = w.heap.size + 1 := by omega
 have ne2_0_2 : ¬ w.heap.size = w.heap.size + 1 + 1 := by omega
 have ne2_1_0 : ¬ w.heap.size + 1 = w.heap.size := by omega
 have ne2_1_2 : ¬ w.heap.size + 1 = w.heap.size + 1 + 1 := by omega
 have ne2_2_0 : ¬ w.heap.size + 1 + 1 = w.heap.size := by omega
 have ne2_2_1 : ¬ w.heap.size + 1 + 1 = w.heap.size + 1 := by omega
 have lt0_3 := (F1.out.1).lt
 have lt1_3 := (F1.out.2.1).lt
 have lt2_3 := (F1.out.2.2.1).lt
 have le3 := (F1.out.2.2.2).size
 have F2 : Hid (Bk (w2.alloc (.cells #[.string s, .int .i64 p, .bool false, .string t, .int .i64 q, .bool false, .bool c] 59)) (w.heap.size) [.string s, .int .i64 p, .bool false] ∧ Bk (w2.alloc (.cells #[.string s, .int .i64 p, .bool false, .string t, .int .i64 q, .bool false, .bool c] 59)) (w.heap.size + 1) [.string t, .int .i64 q, .bool false] ∧ Bk (w2.alloc (.cells #[.string s, .int .i64 p, .bool false, .string t, .int .i64 q, .bool false, .bool c] 59)) (w.heap.size + 1 + 1) [.string ⟨#[]⟩, .int .i64 0, .bool false] ∧ Bk (w2.alloc (.cells #[.string s, .int .i64 p, .bool false, .string t, .int .i64 q, .bool false, .bool c] 59)) (w2.heap.size) [.string s, .int .i64 p, .bool false, .string t, .int .i64 q, .bool false, .bool c] ∧ Below w.heap.size w (w2.alloc (.cells #[.string s, .int .i64 p, .bool false, .string t, .int .i64 q, .bool false, .bool c] 59))) := ⟨(F1.out.1).step ((Below.refl _ _).alloc (Nat.le_refl _) _), (F1.out.2.1).step ((Below.refl _ _).alloc (Nat.le_refl _) _), (F1.out.2.2.1).step ((Below.refl _ _).alloc (Nat.le_refl _) _), Bk.new7 w2 (.string s) (.int .i64 p) (.bool false) (.string t) (.int .i64 q) (.bool false) (.bool c) 59, (F1.out.2.2.2).alloc ((F1.out.2.2.2).size) _⟩
 clear F1
 go_upto_region 5 with fail
 generalize (w2.alloc (.cells #[.string s, .int .i64 p, .bool false, .string t, .int .i64 q, .bool false, .bool c] 59)) = w3 at *
 clear l2_0 a2_0_0 f2_0_0 a2_0_1 f2_0_1 a2_0_2 f2_0_2 l2_1 a2_1_0 f2_1_0 a2_1_1 f2_1_1 a2_1_2 f2_1_2 l2_2 a2_2_0 f2_2_0 a2_2_1 f2_2_1 a2_2_2 f2_2_2
 have l3_0 := F2.out.1.lt
 have a3_0_0 := F2.out.1.cell 0 _ rfl
 have f3_0_0 := F2.out.1.fz 0
 have a3_0_1 := F2.out.1.cell 1 _ rfl
 have f3_0_1 := F2.out.1.fz 1
 have a3_0_2 := F2.out.1.cell 2 _ rfl
 have f3_0_2 := F2.out.1.fz 2
 have l3_1 := F2.out.2.1.lt
 have a3_1_0 := F2.out.2.1.cell 0 _ rfl
 have f3_1_0 := F2.out.2.1.fz 0
 have a3_1_1 := F2.out.2.1.cell 1 _ rfl
 have f3_1_1 := F2.out.2.1.fz 1
 have a3_1_2 := F2.out.2.1.cell 2 _ rfl
 have f3_1_2 := F2.out.2.1.fz 2
 have l3_2 := F2.out.2.2.1.lt
 have a3_2_0 := F2.out.2.2.1.cell 0 _ rfl
 have f3_2_0 := F2.out.2.2.1.fz 0
 have a3_2_1 := F2.out.2.2.1.cell 1 _ rfl
 have f3_2_1 := F2.out.2.2.1.fz 1
 have a3_2_2 := F2.out.2.2.1.cell 2 _ rfl
 have f3_2_2 := F2.out.2.2.1.fz 2
 have l3_3 := F2.out.2.2.2.1.lt
 have a3_3_0 := F2.out.2.2.2.1.cell 0 _ rfl
 have f3_3_0 := F2.out.2.2.2.1.fz 0
 have a3_3_1 := F2.out.2.2.2.1.cell 1 _ rfl
 have f3_3_1 := F2.out.2.2.2.1.fz 1
 have a3_3_2 := F2.out.2.2.2.1.cell 2 _ rfl
 have f3_3_2 := F2.out.2.2.2.1.fz 2
 have a3_3_3 := F2.out.2.2.2.1.cell 3 _ rfl
 have f3_3_3 := F2.out.2.2.2.1.fz 3
 have a3_3_4 := F2.out.2.2.2.1.cell 4 _ rfl
 have f3_3_4 := F2.out.2.2.2.1.fz 4
 have a3_3_5 := F2.out.2.2.2.1.cell 5 _ rfl
 have f3_3_5 := F2.out.2.2.2.1.fz 5
 have a3_3_6 := F2.out.2.2.2.1.cell 6 _ rfl
 have f3_3_6 := F2.out.2.2.2.1.fz 6
 have ne3_0_1 : ¬ w.heap.size = w.heap.size + 1 := by omega
 have ne3_0_2 : ¬ w.heap.size = w.heap.size + 1 + 1 := by omega
 have ne3_0_3 : ¬ w.heap.size = w2.heap.size := by omega
 have ne3_1_0 : ¬ w.heap.size + 1 = w.heap.size := by omega
 have ne3_1_2 : ¬ w.heap.size + 1 = w.heap.size + 1 + 1 := by omega
 have ne3_1_3 : ¬ w.heap.size + 1 = w2.heap.size := by omega
 have ne3_2_0 : ¬ w.heap.size + 1 + 1 = w.heap.size := by omega
 have ne3_2_1 : ¬ w.heap.size + 1 + 1 = w.heap.size + 1 := by omega
 have ne3_2_3 : ¬ w.heap.size + 1 + 1 = w2.heap.size := by omega
 have ne3_3_0 : ¬ w2.heap.size = w.heap.size := by omega
 have ne3_3_1 : ¬ w2.heap.size = w.heap.size + 1 := by omega
 have ne3_3_2 : ¬ w2.heap.size = w.heap.size + 1 + 1 := by omega
 go_wp2_with fail
 all_goals first | (exfalso; omega) | skip
 refine (HL _).mono ?_
 rintro o4 w4 ⟨rfl, bb⟩
 have F3 : Hid (Bk w4 (w.heap.size) [.string s, .int .i64 p, .bool false] ∧ Bk w4 (w.heap.size + 1) [.string t, .int .i64 q, .bool false] ∧ Bk w4 (w.heap.size + 1 + 1) [.string ⟨#[]⟩, .int .i64 0, .bool false] ∧ Bk w4 (w2.heap.size) [.string s, .int .i64 p, .bool false, .string t, .int .i64 q, .bool false, .bool c] ∧ Below w.heap.size w w4) := ⟨(F2.out.1).step bb, (F2.out.2.1).step bb, (F2.out.2.2.1).step bb, (F2.out.2.2.2.1).step bb, (F2.out.2.2.2.2).trans (bb.mono (F2.out.2.2.2.2).size)⟩
 clear F2
 clear bb
 clear l3_0 a3_0_0 f3_0_0 a3_0_1 f3_0_1 a3_0_2 f3_0_2 l3_1 a3_1_0 f3_1_0 a3_1_1 f3_1_1 a3_1_2 f3_1_2 l3_2 a3_2_0 f3_2_0 a3_2_1 f3_2_1 a3_2_2 f3_2_2 l3_3 a3_3_0 f3_3_0 a3_3_1 f3_3_1 a3_3_2 f3_3_2 a3_3_3 f3_3_3 a3_3_4 f3_3_4 a3_3_5 f3_3_5 a3_3_6 f3_3_6
 have lt0_4 := (F3.out.1).lt
 have lt1_4 := (F3.out.2.1).lt
 have lt2_4 := (F3.out.2.2.1).lt
 have lt3_4 := (F3.out.2.2.2.1).lt
 have le4 := (F3.out.2.2.2.2).size
 have F4 : Hid (Bk (w4.alloc (.cells #[.string d1, .int .i64 d2, .bool false] 24)) (w.heap.size) [.string s, .int .i64 p, .bool false] ∧ Bk (w4.alloc (.cells #[.string d1, .int .i64 d2, .bool false] 24)) (w.heap.size + 1) [.string t, .int .i64 q, .bool false] ∧ Bk (w4.alloc (.cells #[.string d1, .int .i64 d2, .bool false] 24)) (w.heap.size + 1 + 1) [.string ⟨#[]⟩, .int .i64 0, .bool false] ∧ Bk (w4.alloc (.cells #[.string d1, .int .i64 d2, .bool false] 24)) (w2.heap.size) [.string s, .int .i64 p, .bool false, .string t, .int .i64 q, .bool false, .bool c] ∧ Bk (w4.alloc (.cells #[.string d1, .int .i64 d2, .bool false] 24)) (w4.heap.size) [.string d1, .int .i64 d2, .bool false] ∧ Below w.heap.size w (w4.alloc (.cells #[.string d1, .int .i64 d2, .bool false] 24))) := ⟨(F3.out.1).step ((Below.refl _ _).alloc (Nat.le_refl _) _), (F3.out.2.1).step ((Below.refl _ _).alloc (Nat.le_refl _) _), (F3.out.2.2.1).step ((Below.refl _ _).alloc (Nat.le_refl _) _), (F3.out.2.2.2.1).step ((Below.refl _ _).alloc (Nat.le_refl _) _), Bk.new3 w4 (.string d1) (.int .i64 d2) (.bool false) 24, (F3.out.2.2.2.2).alloc ((F3.out.2.2.2.2).size) _⟩
 clear F3
 go_upto_region 6 with fail
 generalize (w4.alloc (.cells #[.string d1, .int .i64 d2, .bool false] 24)) = w5 at *
 have l4_0 := F4.out.1.lt
 have a4_0_0 := F4.out.1.cell 0 _ rfl
 have f4_0_0 := F4.out.1.fz 0
 have a4_0_1 := F4.out.1.cell 1 _ rfl
 have f4_0_1 := F4.out.1.fz 1
 have a4_0_2 := F4.out.1.cell 2 _ rfl
 have f4_0_2 := F4.out.1.fz 2
 have l4_1 := F4.out.2.1.lt
 have a4_1_0 := F4.out.2.1.cell 0 _ rfl
 have f4_1_0 := F4.out.2.1.fz 0
 have a4_1_1 := F4.out.2.1.cell 1 _ rfl
 have f4_1_1 := F4.out.2.1.fz 1
 have a4_1_2 := F4.out.2.1.cell 2 _ rfl
 have f4_1_2 := F4.out.2.1.fz 2
 have l4_2 := F4.out.2.2.1.lt
 have a4_2_0 := F4.out.2.2.1.cell 0 _ rfl
 have f4_2_0 := F4.out.2.2.1.fz 0
 have a4_2_1 := F4.out.2.2.1.cell 1 _ rfl
 have f4_2_1 := F4.out.2.2.1.fz 1
 have a4_2_2 := F4.out.2.2.1.cell 2 _ rfl
 have f4_2_2 := F4.out.2.2.1.fz 2
 have l4_3 := F4.out.2.2.2.1.lt
 have a4_3_0 := F4.out.2.2.2.1.cell 0 _ rfl
 have f4_3_0 := F4.out.2.2.2.1.fz 0
 have a4_3_1 := F4.out.2.2.2.1.cell 1 _ rfl
 have f4_3_1 := F4.out.2.2.2.1.fz 1
 have a4_3_2 := F4.out.2.2.2.1.cell 2 _ rfl
 have f4_3_2 := F4.out.2.2.2.1.fz 2
 have a4_3_3 := F4.out.2.2.2.1.cell 3 _ rfl
 have f4_3_3 := F4.out.2.2.2.1.fz 3
 have a4_3_4 := F4.out.2.2.2.1.cell 4 _ rfl
 have f4_3_4 := F4.out.2.2.2.1.fz 4
 have a4_3_5 := F4.out.2.2.2.1.cell 5 _ rfl
 have f4_3_5 := F4.out.2.2.2.1.fz 5
 have a4_3_6 := F4.out.2.2.2.1.cell 6 _ rfl
 have f4_3_6 := F4.out.2.2.2.1.fz 6
 have l4_4 := F4.out.2.2.2.2.1.lt
 have a4_4_0 := F4.out.2.2.2.2.1.cell 0 _ rfl
 have f4_4_0 := F4.out.2.2.2.2.1.fz 0
 have a4_4_1 := F4.out.2.2.2.2.1.cell 1 _ rfl
 have f4_4_1 := F4.out.2.2.2.2.1.fz 1
 have a4_4_2 := F4.out.2.2.2.2.1.cell 2 _ rfl
 have f4_4_2 := F4.out.2.2.2.2.1.fz 2
 have ne4_0_1 : ¬ w.heap.size = w.heap.size + 1 := by omega
 have ne4_0_2 : ¬ w.heap.size = w.heap.size + 1 + 1 := by omega
 have ne4_0_3 : ¬ w.heap.size = w2.heap.size := by omega
 have ne4_0_4 : ¬ w.heap.size = w4.heap.size := by omega
 have ne4_1_0 : ¬ w.heap.size + 1 = w.heap.size := by omega
 have ne4_1_2 : ¬ w.heap.size + 1 = w.heap.size + 1 + 1 := by omega
 have ne4_1_3 : ¬ w.heap.size + 1 = w2.heap.size := by omega
 have ne4_1_4 : ¬ w.heap.size + 1 = w4.heap.size := by omega
 have ne4_2_0 : ¬ w.heap.size + 1 + 1 = w.heap.size := by omega
 have ne4_2_1 : ¬ w.heap.size + 1 + 1 = w.heap.size + 1 := by omega
 have ne4_2_3 : ¬ w.heap.size + 1 + 1 = w2.heap.size := by omega
 have ne4_2_4 : ¬ w.heap.size + 1 + 1 = w4.heap.size := by omega
 have ne4_3_0 : ¬ w2.heap.size = w.heap.size := by omega
 have ne4_3_1 : ¬ w2.heap.size = w.heap.size + 1 := by omega
 have ne4_3_2 : ¬ w2.heap.size = w.heap.size + 1 + 1 := by omega
 have ne4_3_4 : ¬ w2.heap.size = w4.heap.size := by omega
 have ne4_4_0 : ¬ w4.heap.size = w.heap.size := by omega
 have ne4_4_1 : ¬ w4.heap.size = w.heap.size + 1 := by omega
 have ne4_4_2 : ¬ w4.heap.size = w.heap.size + 1 + 1 := by omega
 have ne4_4_3 : ¬ w4.heap.size = w2.heap.size := by omega
 go_wp2
 refine bodyPost_ret (v := .tuple #[.agg #[.string d1, .int .i64 d2, .bool false], .nilIface]) (by simp [results, Tryz.results16, go_sem, World.cell?_setCell_same, World.cell?_setCell_other, *]) rfl ⟨rfl, ?_⟩
 repeat (first | refine Below.setCell ?_ (by first | exact Nat.le_refl _ | (dsimp only; omega)) _ | refine Below.alloc ?_ (by first | exact Nat.le_refl _ | omega | (simp; omega)) _ | refine Below.drew ?_)
 exact F4.out.2.2.2.2.2
end Go.Proofs.YtblkokjkmbpejaaGreatDoor
