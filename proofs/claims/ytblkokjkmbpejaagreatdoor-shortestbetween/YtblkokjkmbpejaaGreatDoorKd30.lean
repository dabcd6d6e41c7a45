/-
  Holds: SoUa SoUb.
-/
import Derived.Test.YtblkokjkmbpejaaGreatDoorRows
import Derived.Laws.Externs
import Derived.WalkKit
import Derived.WalkSpells
import Derived.WalkLawsBesides
import Derived.Lib.Mul64
import Derived.Stop.Asserts
import Derived.RowKitTokens
import Derived.Lib.Strings
import Derived.Lib.BufferWrite
import Derived.Deep.OwnRows
import Derived.Deep.RegionHeld3
import Derived.BigQuiet
import Derived.Lib.ConvBytes
import Derived.Laws.CopyOwn
import Derived.Lib.TrailingZeros
import Derived.Lib.ItoaNum
import Derived.Deep.LoopGhost
import Derived.Deep.AppendLies
import Derived.Deep.DeepCutAuto
import Derived.Test.YtblkokjkmbpejaaGreatDoorKd26
set_option maxRecDepth 100000
set_option maxHeartbeats 4000000
namespace Go.Proofs.YtblkokjkmbpejaaGreatDoor
open Go.RowKit
theorem info_parts {T : Type} {o : Option T} {f : T → Option Value × Nat × Nat} {a : Option Value} {b c : Nat} (h : o.map f = some (a, b, c)) : ∃ i, o = some i ∧ (f i).1 = a ∧ (f i).2.1 = b ∧ (f i).2.2 = c := by
 obtain ⟨i, hi, e⟩ := Option.map_eq_some_iff.1 h
 exact ⟨i, hi, by rw [e], by rw [e], by rw [e]⟩
theorem one_byte (w : World) : (w.alloc (.cells #[.int .u8 48] 5)).cell? ((⟨w.heap.size, 0, none⟩ : Addr).add 0) = some (.int .u8 48) := by
 rw [Addr.add_lit]
 simp
def lenS : Value → Nat | .slice _ n _ => n | _ => 0
structure Rw (N : Nat) (W : World) (s : ByteArray) (v : Value) (k g cap : Nat) : Prop where
 val : v = .slice (some ⟨g, 0, none⟩) k cap
 lo : N ≤ g
 lt : g < W.heap.size
 le : k ≤ cap
 cells : ∀ j, j < k → W.cell? ⟨g, j, none⟩ = some (.int .u8 (dgt s j : Int))
 spare : ∀ j, k ≤ j → j < cap → (W.cell? ⟨g, j, none⟩).isSome = true
 fr : ∀ j, j < cap → W.frozen? ⟨g, j, none⟩ = false
def Rx (N : Nat) (W : World) (s : ByteArray) (v : Value) (k : Nat) : Prop := ∃ g cap, Rw N W s v k g cap
theorem Rw.step {N : Nat} {W W' : World} {s : ByteArray} {v : Value} {k g cap : Nat} (h : Rw N W s v k g cap) (hb : Below W.heap.size W W') : Rw N W' s v k g cap := by
 have c : ∀ o, W'.cell? ⟨g, o, none⟩ = W.cell? ⟨g, o, none⟩ := fun o => hb.cell (p := ⟨g, o, none⟩) h.lt
 have f : ∀ o, W'.frozen? ⟨g, o, none⟩ = W.frozen? ⟨g, o, none⟩ := fun o => hb.frozen (p := ⟨g, o, none⟩) h.lt
 exact ⟨h.val, h.lo, Nat.lt_of_lt_of_le h.lt hb.size, h.le, fun j hj => (c j).trans (h.cells j hj), fun j a b => by rw [c]; exact h.spare j a b, fun j a => by rw [f]; exact h.fr j a⟩
theorem Rw.br {N : Nat} {W : World} {s : ByteArray} {v : Value} {k g cap : Nat} (h : Rw N W s v k g cap) : BR W g k (dgt s) :=
 ⟨h.lt, h.cells, fun i hi => h.fr i (by have := h.le; omega)⟩
theorem rw_start (U : World) (t : ByteArray) : ∃ W1 C, (Go.convert 9 88 (.string t)).run Tryz.prog U = .ok (.slice (some ⟨U.heap.size, 0, none⟩) t.size C) W1 ∧ Below U.heap.size U W1 ∧ Rw U.heap.size W1 t (.slice (some ⟨U.heap.size, 0, none⟩) t.size C) t.size U.heap.size C := by
 have hL := Lib.run_convert_string_bytes (P := Tryz.prog) U 9 88 5 t und_str9b und_bytes48 und_u8b
 have bU : Below U.heap.size U (Lib.bytesWorld U 5 t) := ⟨rfl, rfl, rfl, by rw [Lib.bytesWorld_size]; omega, fun k hk => Lib.bytesWorld_at_old U 5 t k hk⟩
 have q := Lib.bytesWorld_at_new U 5 t
 have hg := grownCap_ge U t.size 0 5
 have sz : (Lib.bytesCells U 5 t).size = grownCap U t.size 0 5 := by
  unfold Lib.bytesCells
  simp
  omega
 refine ⟨Lib.bytesWorld U 5 t, grownCap U t.size 0 5, hL, bU, rfl, Nat.le_refl _, by rw [Lib.bytesWorld_size]; omega, hg, fun j hj => ?_, fun j a b => ?_, fun j b => ?_⟩
 · have c := Lib.bytesWorld_cell U 5 t j hj
   rw [getD_dgt hj] at c
   exact c
 · unfold World.cell?
   rw [q]
   have z : j < (Lib.bytesCells U 5 t).size := by omega
   simp [Array.getElem?_eq_getElem z]
 · unfold World.frozen?
   rw [q]
   have z : ¬ (Lib.bytesCells U 5 t).size ≤ j := by omega
   simp [z]
def dgV (s : ByteArray) (k : Nat) : List Value := (List.range k).map fun j => Value.int .u8 (dgt s j : Int)
theorem dgV_len (s : ByteArray) (k : Nat) : (dgV s k).length = k := by simp [dgV]
theorem dgV_at {s : ByteArray} {k j : Nat} {u : Value} (h : (dgV s k)[j]? = some u) : j < k ∧ u = .int .u8 (dgt s j : Int) := by
 have hj : j < k := by have := (List.getElem?_eq_some_iff.1 h).1; rwa [dgV_len] at this
 unfold dgV at h
 rw [List.getElem?_map, List.getElem?_range hj] at h
 exact ⟨hj, (Option.some.inj h).symm⟩
theorem Rw.room {N : Nat} {W : World} {s : ByteArray} {v : Value} {k g cap : Nat} (h : Rw N W s v k g cap) (hc : k + 1 ≤ cap) (hz : dgt s k = 48) :
 Rw N (W.setCells g (0 + k * 1) [.int .u8 48]) s (.slice (some ⟨g, 0, none⟩) (k + 1) cap) (k + 1) g cap := by
 have e : W.setCells g (0 + k * 1) [.int .u8 48] = W.setCell ⟨g, k, none⟩ (.int .u8 48) := by
  show W.setCell ⟨g, 0 + k * 1, none⟩ (.int .u8 48) = _
  rw [show 0 + k * 1 = k by omega]
 rw [e]
 refine ⟨rfl, h.lo, by rw [World.size_setCell]; exact h.lt, hc, fun j hj => ?_, fun j a b => ?_, fun j b => by rw [World.frozen?_setCell]; exact h.fr j b⟩
 · by_cases c : j = k
   · subst c
     rw [hz]
     exact World.cell?_setCell_same' _ _ _ (h.spare j (Nat.le_refl _) (by omega))
   · rw [World.cell?_setCell_other _ _ _ _ (by intro q; injection q with _ q _; exact c q.symm)]
     exact h.cells j (by omega)
 · rw [World.cell?_setCell_other _ _ _ _ (by intro q; injection q with _ q _; omega)]
   exact h.spare j (by omega) b
theorem setCells_below {B g k : Nat} {U W : World} (h : Below B U W) (hg : B ≤ g) (v : Value) : Below B U (W.setCells g k [v]) := h.setCell (p := ⟨g, k, none⟩) hg v
theorem setCells_bk {W : World} {K : Nat} {l : List Value} (h : Bk W K l) {g : Nat} (hne : ¬ K = g) (i : Nat) (v : Value) : Bk (W.setCells g i [v]) K l := h.setC hne i v
theorem rw_grown {N : Nat} {W' : World} {s : ByteArray} {v' : Value} {k base : Nat} (h : W'.ownsRow base 5 1 v' (k + 1) (dgV s k ++ [.int .u8 48])) (hN : N ≤ base) (hz : dgt s k = 48) : Rx N W' s v' (k + 1) := by
 obtain ⟨_, h⟩ := h
 rcases h with ⟨_, h0⟩ | ⟨g, cap, cur, hv, hb, hg, hn, _, hs, ht⟩
 · omega
 · have hlt : g < W'.heap.size := by
    rcases Nat.lt_or_ge g W'.heap.size with hlt | hge
    · exact hlt
    · rw [Array.getElem?_eq_none hge] at hg; cases hg
   refine ⟨g, cap, hv, by omega, hlt, hn, fun j hj => ?_, fun j a b => ?_, fun j b => ?_⟩
   · have hj' : j < cur.size := by omega
     have e : cur.toList[j]? = some (.int .u8 (dgt s j : Int)) := by
      have : (cur.toList.take ((k + 1) * 1))[j]? = cur.toList[j]? := List.getElem?_take_of_lt (by omega)
      rw [← this, ht]
      by_cases c : j = k
      · subst c
        rw [List.getElem?_append_right (by rw [dgV_len]; omega), dgV_len, Nat.sub_self, hz]
        rfl
      · rw [List.getElem?_append_left (by rw [dgV_len]; omega)]
        unfold dgV
        rw [List.getElem?_map, List.getElem?_range (by omega)]
        rfl
     have q := World.news_of_block hg j _ e
     rw [Addr.add_lit] at q
     rw [Nat.zero_add] at q
     exact q
   · have hj' : j < cur.size := by omega
     have q := World.news_of_block hg j (cur[j]) (by rw [Array.getElem?_toList, Array.getElem?_eq_getElem hj'])
     rw [Addr.add_lit, Nat.zero_add] at q
     rw [q]
     rfl
   · unfold World.frozen?
     rw [hg]
     simp
theorem dgt_zero_all {t s : ByteArray} (h : t = ⟨#[48]⟩ ++ s) : t.size = s.size + 1 ∧ ∀ i, dgt t i = zeroT s i := by
 have e1 : (⟨#[48]⟩ : ByteArray).size = 1 := rfl
 have z : t.size = s.size + 1 := by rw [h, ByteArray.size_append, e1]; omega
 have q := (dgt_zero_app (t := t) (s := s) (n := s.size) (by rw [ext_zero]; exact h) (Nat.le_refl _)).2
 refine ⟨z, fun i => ?_⟩
 rcases Nat.lt_or_ge i (s.size + 1) with c | c
 · exact q i c
 · rw [dgt_ge (by omega)]
   unfold zeroT
   rw [if_neg (by omega), dgt_ge (by omega)]
theorem raf_ok {u e1 : ByteArray} {o e2 : Int} {n k : Nat} (hs : u.size ≤ n) (n8 : n ≤ 800) (hd : DG u) (ho : -1099511627776 ≤ o) (ho2 : o ≤ 1099511627776) (kn : k ≤ n) (h9 : ∀ i, k ≤ i → i < n → dgt u i = 57) (hk : 0 < k → dgt u (k - 1) ≠ 57) (M2 : ∀ v : ByteArray, v.size = n + 1 → (∀ i, i < n + 1 → dgt v i = incT u k i) → ∀ W, Calls Tryz.prog 46 #[.string v, .int .i64 (o + 1), .bool false] W fun e w' => e = .returned (.tuple #[.agg #[.string e1, .int .i64 e2, .bool false], .int .i64 0]) ∧ Below W.heap.size W w') (w : World) :
    Calls Tryz.prog 35 #[.agg #[.string u, .int .i64 o, .bool false], .int .i64 (n : Int)] w fun x w' => x = .returned (.agg #[.string e1, .int .i64 e2, .bool false]) ∧ Below w.heap.size w w' := by
  have n0 : ¬ (n : Int) < 0 := by omega
  have ni : ((n : Int)).toNat = n := by omega
  have HP : Hid ((∀ i, k ≤ i → i < n → dgt u i = 57) ∧ (0 < k → dgt u (k - 1) ≠ 57) ∧ k ≤ n ∧ DG u ∧ n ≤ 800) := ⟨h9, hk, kn, hd, n8⟩
  have HM2 : Hid (∀ v : ByteArray, v.size = n + 1 → (∀ i, i < n + 1 → dgt v i = incT u k i) → ∀ W, Calls Tryz.prog 46 #[.string v, .int .i64 (o + 1), .bool false] W fun e w' => e = .returned (.tuple #[.agg #[.string e1, .int .i64 e2, .bool false], .int .i64 0]) ∧ Below W.heap.size W w') := M2
  obtain ⟨i0, hi, hz0, hz1, hz2⟩ := info_parts info_b8
  have wn : IntKind.i64.wrap ((n : Int) + 1) = ((n + 1 : Nat) : Int) := by
    unfold IntKind.wrap
    simp [IntKind.bits, IntKind.signed]
    omega
  clear h9 hk kn hd M2
  have F0 : Hid (Bk ((w.alloc (.cells #[.string u, .int .i64 o, .bool false] 24)).alloc (.cells #[.string ⟨#[]⟩, .int .i64 0, .bool false] 24)) (w.heap.size) [.string u, .int .i64 o, .bool false] ∧ Bk ((w.alloc (.cells #[.string u, .int .i64 o, .bool false] 24)).alloc (.cells #[.string ⟨#[]⟩, .int .i64 0, .bool false] 24)) (w.heap.size + 1) [.string ⟨#[]⟩, .int .i64 0, .bool false] ∧ Below w.heap.size w ((w.alloc (.cells #[.string u, .int .i64 o, .bool false] 24)).alloc (.cells #[.string ⟨#[]⟩, .int .i64 0, .bool false] 24))) := ⟨(Bk.new3 w (.string u) (.int .i64 o) (.bool false) 24).step ((Below.refl _ _).alloc (Nat.le_refl _) _), ((by have q := Bk.new3 (w.alloc (.cells #[.string u, .int .i64 o, .bool false] 24)) (.string ⟨#[]⟩) (.int .i64 0) (.bool false) 24; simpa using q) : Bk ((w.alloc (.cells #[.string u, .int .i64 o, .bool false] 24)).alloc (.cells #[.string ⟨#[]⟩, .int .i64 0, .bool false] 24)) (w.heap.size + 1) [.string ⟨#[]⟩, .int .i64 0, .bool false]), (((Below.refl w.heap.size w)).alloc (Nat.le_refl _) _).alloc ((((Below.refl w.heap.size w)).alloc (Nat.le_refl _) _).size) _⟩
  go_enter Tryz.func35, Tryz.ntmps35
  go_upto_region 1 with fail
  generalize ((w.alloc (.cells #[.string u, .int .i64 o, .bool false] 24)).alloc (.cells #[.string ⟨#[]⟩, .int .i64 0, .bool false] 24)) = w1 at *
  have l1_0 := F0.out.1.lt
  have a1_0_0 := F0.out.1.cell 0 _ rfl
  have f1_0_0 := F0.out.1.fz 0
  have a1_0_1 := F0.out.1.cell 1 _ rfl
  have f1_0_1 := F0.out.1.fz 1
  have a1_0_2 := F0.out.1.cell 2 _ rfl
  have f1_0_2 := F0.out.1.fz 2
  have l1_1 := F0.out.2.1.lt
  have a1_1_0 := F0.out.2.1.cell 0 _ rfl
  have f1_1_0 := F0.out.2.1.fz 0
  have a1_1_1 := F0.out.2.1.cell 1 _ rfl
  have f1_1_1 := F0.out.2.1.fz 1
  have a1_1_2 := F0.out.2.1.cell 2 _ rfl
  have f1_1_2 := F0.out.2.1.fz 2
  have ne1_0_1 : ¬ w.heap.size = w.heap.size + 1 := by omega
  have ne1_1_0 : ¬ w.heap.size + 1 = w.heap.size := by omega
  obtain ⟨t, ht⟩ : ∃ t, t = (⟨#[48]⟩ ++ u : ByteArray) := ⟨_, rfl⟩
  obtain ⟨ts, td⟩ := dgt_zero_all ht
  obtain ⟨W1, C0, hcv, hbW, R0⟩ := rw_start w1 t
  rw [ts] at hcv R0
  have HT : Hid (∀ i, i < n + 1 → dgt t i = zeroT u i) := fun i _ => td i
  have HZ : Hid (∀ i, u.size + 1 ≤ i → dgt t i = 48) := fun i a => dgt_ge (by omega)
  rw [ht] at hcv
  have su : ¬ 9223372036854775807 < 1 + u.size := by omega
  have su2 : ¬ 9223372036854775807 < u.size + 1 := by omega
  go_wp2
  clear ht
  have lk0 := (F0.out.1).lt
  have lk1 := (F0.out.2.1).lt
  have lw := (F0.out.2.2).size
  have IB : Hid (Bk W1 (w.heap.size) [.string u, .int .i64 o, .bool false] ∧ Bk W1 (w.heap.size + 1) [.string ⟨#[]⟩, .int .i64 0, .bool false] ∧ Rx (w1.heap.size) W1 t (.slice (some ⟨w1.heap.size, 0, none⟩) (u.size + 1) C0) (u.size + 1) ∧ Below w.heap.size w W1) := ⟨(F0.out.1).step hbW, (F0.out.2.1).step hbW, ⟨_, _, R0⟩, (F0.out.2.2).trans (hbW.mono (F0.out.2.2).size)⟩
  clear l1_0 a1_0_0 f1_0_0 a1_0_1 f1_0_1 a1_0_2 f1_0_2 l1_1 a1_1_0 f1_1_0 a1_1_1 f1_1_1 a1_1_2 f1_1_2 F0 R0 hbW hcv
  go_loopw [5] (fun v wr => ∃ kk : Nat, u.size + 1 ≤ kk ∧ kk ≤ n + 1 ∧ Hid (Bk wr (w.heap.size) [.string u, .int .i64 o, .bool false] ∧ Bk wr (w.heap.size + 1) [.string ⟨#[]⟩, .int .i64 0, .bool false] ∧ Rx (w1.heap.size) wr t v kk ∧ Below w.heap.size w wr)) (fun v _ => (n + 1) - lenS v)
  case atStart => exact ⟨u.size + 1, Nat.le_refl _, by omega, IB.out⟩
  case round =>
    obtain ⟨q, hmk, hkn, HB⟩ := hrel
    clear IB
    obtain ⟨g, cap, BS⟩ := HB.out.2.2.1
    have hv := BS.val
    subst hv
    have HS : Hid (Rw (w1.heap.size) wr t (.slice (some ⟨g, 0, none⟩) q cap) q g cap) := BS
    have HR : Hid (Bk wr (w.heap.size) [.string u, .int .i64 o, .bool false] ∧ Bk wr (w.heap.size + 1) [.string ⟨#[]⟩, .int .i64 0, .bool false] ∧ Below w.heap.size w wr) := ⟨HB.out.1, HB.out.2.1, HB.out.2.2.2⟩
    clear HB BS
    have glt := HS.out.lt
    have glo := HS.out.lo
    have gle := HS.out.le
    have sb := HR.out.2.2.size
    by_cases c : q < n + 1
    · have dk : Hid (dgt t q = 48) := HZ.out q hmk
      go_wp2_with (first
        | (at_builtin; refine wpList_append_arg _ rfl _ _ 88 rfl 5 i0 (.int .u8 0) 1 1 und_bytes48 hi hz0 hz1 hz2 rfl (by decide) g 0 q cap (dgV t q) rfl ?a1 ?a2 ⟨wr.heap.size, 0, none⟩ 1 1 [.int .u8 48] rfl rfl ?a3 ?a4 ?a5 ?a6 ?a7 ?a8 ?a9)
        | go_in)
      case a1 => rw [dgV_len]; omega
      case a2 =>
        intro j u hj
        obtain ⟨hj', rfl⟩ := dgV_at hj
        rw [Nat.zero_add, World.cell?_alloc_lt _ _ ⟨g, j, none⟩ glt]
        exact HS.out.cells j hj'
      case a3 =>
        intro j u hj
        match j, hj with
        | 0, hj =>
          obtain rfl := Option.some.inj hj
          exact one_byte wr
        | j + 1, hj => simp at hj
      case a4 =>
        intro u hu
        obtain rfl := List.mem_singleton.1 hu
        rfl
      case a5 =>
        intro hc j hj
        have hj' : j = 0 := by have : j < 1 := hj; omega
        subst hj'
        have sp := HS.out.step ((Below.refl wr.heap.size wr).alloc (Nat.le_refl _) (.cells #[.int .u8 48] 5))
        rw [show 0 + q * 1 + 0 = q by omega]
        exact ⟨sp.spare q (Nat.le_refl _) (by omega), sp.fr q (by omega)⟩
      case a6 => unfold maxLen; omega
      case a7 => omega
      case a8 =>
        intro hc
        have HS2 : Hid (Rw (w1.heap.size) ((wr.alloc (.cells #[.int .u8 48] 5)).setCells g q [.int .u8 48]) t (.slice (some ⟨g, 0, none⟩) (q + 1) cap) (q + 1) g cap) := by
          have z := (HS.out.step ((Below.refl wr.heap.size wr).alloc (Nat.le_refl _) (.cells #[.int .u8 48] 5))).room hc dk.out
          rw [show 0 + q * 1 = q by omega] at z
          exact z
        have HB2 : Hid (Bk ((wr.alloc (.cells #[.int .u8 48] 5)).setCells g q [.int .u8 48]) (w.heap.size) [.string u, .int .i64 o, .bool false] ∧ Bk ((wr.alloc (.cells #[.int .u8 48] 5)).setCells g q [.int .u8 48]) (w.heap.size + 1) [.string ⟨#[]⟩, .int .i64 0, .bool false] ∧ Below w.heap.size w ((wr.alloc (.cells #[.int .u8 48] 5)).setCells g q [.int .u8 48])) := ⟨setCells_bk ((HR.out.1).step ((Below.refl wr.heap.size wr).alloc (Nat.le_refl _) (.cells #[.int .u8 48] 5))) (by omega) _ _, setCells_bk ((HR.out.2.1).step ((Below.refl wr.heap.size wr).alloc (Nat.le_refl _) (.cells #[.int .u8 48] 5))) (by omega) _ _, setCells_below ((HR.out.2.2).alloc sb _) (by omega) _⟩
        go_wp2
        go_roundw
        case rel => exact ⟨q + 1, by omega, by omega, ⟨HB2.out.1, HB2.out.2.1, ⟨_, _, HS2.out⟩, HB2.out.2.2⟩⟩
        case measure => simp [lenS]; omega
      case a9 =>
        intro hc v' W2 hown hgrow
        have HB2 : Hid (Bk W2 (w.heap.size) [.string u, .int .i64 o, .bool false] ∧ Bk W2 (w.heap.size + 1) [.string ⟨#[]⟩, .int .i64 0, .bool false] ∧ Below w.heap.size w W2) := ⟨((HR.out.1).step ((Below.refl wr.heap.size wr).alloc (Nat.le_refl _) (.cells #[.int .u8 48] 5))).step ((Below.refl _ _).grown hgrow (Nat.le_refl _) (fun q hq => by cases hq)), ((HR.out.2.1).step ((Below.refl wr.heap.size wr).alloc (Nat.le_refl _) (.cells #[.int .u8 48] 5))).step ((Below.refl _ _).grown hgrow (Nat.le_refl _) (fun q hq => by cases hq)), ((HR.out.2.2).alloc sb _).grown hgrow (by first | omega | (rw [World.size_alloc]; omega)) (fun q hq => by cases hq)⟩
        obtain ⟨g2, cap2, BS2⟩ := rw_grown (N := w1.heap.size) hown (by first | omega | (rw [World.size_alloc]; omega)) dk.out
        have hv2 := BS2.val
        subst hv2
        have HS2 : Hid (Rw (w1.heap.size) W2 t (.slice (some ⟨g2, 0, none⟩) (q + 1) cap2) (q + 1) g2 cap2) := BS2
        clear BS2 hown hgrow
        go_wp2
        go_roundw
        case rel => exact ⟨q + 1, by omega, by omega, ⟨HB2.out.1, HB2.out.2.1, ⟨_, _, HS2.out⟩, HB2.out.2.2⟩⟩
        case measure => simp [lenS]; omega
    · obtain rfl : q = n + 1 := by omega
      have F40 : Hid (Bk wr (w.heap.size) [.string u, .int .i64 o, .bool false] ∧ Bk wr (w.heap.size + 1) [.string ⟨#[]⟩, .int .i64 0, .bool false] ∧ Below w.heap.size w wr) := HR.out
      clear HR
      have l21_0 := F40.out.1.lt
      have a21_0_0 := F40.out.1.cell 0 _ rfl
      have f21_0_0 := F40.out.1.fz 0
      have a21_0_1 := F40.out.1.cell 1 _ rfl
      have f21_0_1 := F40.out.1.fz 1
      have a21_0_2 := F40.out.1.cell 2 _ rfl
      have f21_0_2 := F40.out.1.fz 2
      have l21_1 := F40.out.2.1.lt
      have a21_1_0 := F40.out.2.1.cell 0 _ rfl
      have f21_1_0 := F40.out.2.1.fz 0
      have a21_1_1 := F40.out.2.1.cell 1 _ rfl
      have f21_1_1 := F40.out.2.1.fz 1
      have a21_1_2 := F40.out.2.1.cell 2 _ rfl
      have f21_1_2 := F40.out.2.1.fz 2
      have ne21_0_1 : ¬ w.heap.size = w.heap.size + 1 := by omega
      have ne21_1_0 : ¬ w.heap.size + 1 = w.heap.size := by omega
      go_wp2
      clear l21_0 a21_0_0 f21_0_0 a21_0_1 f21_0_1 a21_0_2 f21_0_2 l21_1 a21_1_0 f21_1_0 a21_1_1 f21_1_1 a21_1_2 f21_1_2
      have lm0 := (F40.out.1).lt
      have lm1 := (F40.out.2.1).lt
      have IB : Hid (Bk wr (w.heap.size) [.string u, .int .i64 o, .bool false] ∧ Bk wr (w.heap.size + 1) [.string ⟨#[]⟩, .int .i64 0, .bool false] ∧ BR wr g (n + 1) (dgt t) ∧ Below w.heap.size w wr) := ⟨F40.out.1, F40.out.2.1, HS.out.br, F40.out.2.2⟩
      have hcap := HS.out.le
      clear F40 HS
      go_loopw [6] (fun iv wr => ∃ (j : Nat) (F : Nat → Nat), iv = .int .i64 (j : Int) ∧ k ≤ j ∧ j ≤ n ∧ Hid (Bk wr (w.heap.size) [.string u, .int .i64 o, .bool false] ∧ Bk wr (w.heap.size + 1) [.string ⟨#[]⟩, .int .i64 0, .bool false] ∧ BR wr (g) (n + 1) F ∧ Below w.heap.size w wr) ∧ Hid ((∀ i, i ≤ j → F i = zeroT u i) ∧ (∀ i, j < i → i < n + 1 → F i = 48))) (fun iv _ => (intOf iv).toNat)
      case atStart => exact ⟨n, dgt t, rfl, HP.out.2.2.1, Nat.le_refl _, IB.out, fun i hi => HT.out i (by omega), fun i a b => absurd a (by omega)⟩
      case round =>
        obtain ⟨j, F, rfl, hkj, hjn, HB, HF⟩ := hrel
        clear IB
        have ix : ((j : Int)).toNat = j := by omega
        have hg := HB.out.2.2.1.lt
        by_cases c1 : k < j
        · have e9 : F j = 57 := by
            rw [HF.out.1 j (Nat.le_refl _)]
            unfold zeroT
            rw [if_neg (by omega)]
            exact HP.out.1 (j - 1) (by omega) (by omega)
          have hc := HB.out.2.2.1.row.cell j (by omega)
          have hf := HB.out.2.2.1.row.fr j (by omega)
          rw [e9] at hc
          clear e9
          go_wp2
          go_roundw
          case rel =>
            refine ⟨j - 1, putF F j 48, by go_num, by omega, by omega, ⟨(HB.out.1).setC (by omega) _ _, (HB.out.2.1).setC (by omega) _ _, (HB.out.2.2.1).set (by omega) 48, (HB.out.2.2.2).setCell (by show w.heap.size ≤ g; omega) _⟩, fun i hi => ?_, fun i a b => ?_⟩
            · unfold putF
              rw [if_neg (by omega)]
              exact HF.out.1 i (by omega)
            · unfold putF
              by_cases z : i = j
              · rw [if_pos z]
              · rw [if_neg z]; exact HF.out.2 i (by omega) b
          case measure => simp [intOf]; omega
        · obtain rfl : j = k := by omega
          obtain ⟨y, hy⟩ : ∃ y, y = zeroT u j := ⟨_, rfl⟩
          have ey : F j = y := (HF.out.1 j (Nat.le_refl _)).trans hy.symm
          have hc := HB.out.2.2.1.row.cell j (by omega)
          have hf := HB.out.2.2.1.row.fr j (by omega)
          rw [ey] at hc
          have y9 : y < 57 := by
            rw [hy]
            unfold zeroT
            by_cases z : j = 0
            · rw [if_pos z]; omega
            · rw [if_neg z]
              have := HP.out.2.1 (by omega)
              have := dgt_in HP.out.2.2.2.1 (j - 1)
              omega
          have HYY : Hid (y = zeroT u j) := hy
          have e9 : ((y : Int) == 57) = false := beq_eq_false_iff_ne.mpr (by omega)
          obtain ⟨y1, hy1⟩ : ∃ y1, y1 = y + 1 := ⟨_, rfl⟩
          have HY1 : Hid (y1 = y + 1) := hy1
          have wx : IntKind.u8.wrap ((y : Int) + 1) = (y1 : Int) := by
            rw [hy1]
            unfold IntKind.wrap
            simp [IntKind.bits, IntKind.signed]
            omega
          clear hy ey hy1
          have RB := (HB.out.2.2.1).set (i := j) (by omega) y1
          obtain ⟨v, vs, vd, vc⟩ := row_text (C := cap) RB (fun i hi => by
            unfold putF
            split
            · have := HY1.out; omega
            · rcases Nat.lt_or_ge i j with q | q
              · rw [HF.out.1 i (by omega)]
                unfold zeroT
                split
                · omega
                · have := dgt_in HP.out.2.2.2.1 (i - 1); omega
              · rw [HF.out.2 i (by omega) hi]; omega)
          have vcv := vc _ (fun i _ => rfl)
          have HV : Hid (∀ i, i < n + 1 → dgt v i = incT u j i) := fun i hi => by
            rw [vd i hi]
            unfold putF incT
            by_cases z : i = j
            · rw [if_pos z, if_neg (by omega), if_pos z, HY1.out, HYY.out]
            · rw [if_neg z]
              by_cases q : i < j
              · rw [if_pos q]; exact HF.out.1 i (by omega)
              · rw [if_neg q, if_neg z]; exact HF.out.2 i (by omega) hi
          have MM := HM2.out v vs HV.out
          have wo : IntKind.i64.wrap (o + 1) = o + 1 := by
            unfold IntKind.wrap
            simp [IntKind.bits, IntKind.signed]
            omega
          have F70 : Hid (Bk (wr.setCell ⟨g, j, none⟩ (.int .u8 (y1 : Int))) (w.heap.size) [.string u, .int .i64 o, .bool false] ∧ Bk (wr.setCell ⟨g, j, none⟩ (.int .u8 (y1 : Int))) (w.heap.size + 1) [.string ⟨#[]⟩, .int .i64 0, .bool false] ∧ Below w.heap.size w (wr.setCell ⟨g, j, none⟩ (.int .u8 (y1 : Int)))) := ⟨(HB.out.1).setC (by omega) _ _, (HB.out.2.1).setC (by omega) _ _, (HB.out.2.2.2).setCell (by show w.heap.size ≤ g; omega) _⟩
          clear RB vc vd
          go_upto_region 9 with fail
          generalize (wr.setCell ⟨g, j, none⟩ (.int .u8 (y1 : Int))) = w71 at *
          have hco := (F70.out.1).cell 1 _ rfl
          go_wp2_with fail
          all_goals first | (exfalso; omega) | skip
          refine (MM _).mono ?_
          rintro o72 w72 ⟨rfl, bb⟩
          have F71 : Hid (Bk w72 (w.heap.size) [.string u, .int .i64 o, .bool false] ∧ Bk w72 (w.heap.size + 1) [.string ⟨#[]⟩, .int .i64 0, .bool false] ∧ Below w.heap.size w w72) := ⟨(F70.out.1).step bb, (F70.out.2.1).step bb, (F70.out.2.2).trans (bb.mono (F70.out.2.2).size)⟩
          clear F70
          clear bb
          clear hco vcv
          have lt0_2 := (F71.out.1).lt
          have lt1_2 := (F71.out.2.1).lt
          have le2 := (F71.out.2.2).size
          have F72 : Hid (Bk (w72.alloc (.cells #[.string e1, .int .i64 e2, .bool false] 24)) (w.heap.size) [.string u, .int .i64 o, .bool false] ∧ Bk (w72.alloc (.cells #[.string e1, .int .i64 e2, .bool false] 24)) (w.heap.size + 1) [.string ⟨#[]⟩, .int .i64 0, .bool false] ∧ Bk (w72.alloc (.cells #[.string e1, .int .i64 e2, .bool false] 24)) (w72.heap.size) [.string e1, .int .i64 e2, .bool false] ∧ Below w.heap.size w (w72.alloc (.cells #[.string e1, .int .i64 e2, .bool false] 24))) := ⟨(F71.out.1).step ((Below.refl _ _).alloc (Nat.le_refl _) _), (F71.out.2.1).step ((Below.refl _ _).alloc (Nat.le_refl _) _), Bk.new3 w72 (.string e1) (.int .i64 e2) (.bool false) 24, (F71.out.2.2).alloc ((F71.out.2.2).size) _⟩
          clear F71
          go_upto_region 10 with fail
          generalize (w72.alloc (.cells #[.string e1, .int .i64 e2, .bool false] 24)) = w73 at *
          have l31_0 := F72.out.1.lt
          have a31_0_0 := F72.out.1.cell 0 _ rfl
          have f31_0_0 := F72.out.1.fz 0
          have a31_0_1 := F72.out.1.cell 1 _ rfl
          have f31_0_1 := F72.out.1.fz 1
          have a31_0_2 := F72.out.1.cell 2 _ rfl
          have f31_0_2 := F72.out.1.fz 2
          have l31_1 := F72.out.2.1.lt
          have a31_1_0 := F72.out.2.1.cell 0 _ rfl
          have f31_1_0 := F72.out.2.1.fz 0
          have a31_1_1 := F72.out.2.1.cell 1 _ rfl
          have f31_1_1 := F72.out.2.1.fz 1
          have a31_1_2 := F72.out.2.1.cell 2 _ rfl
          have f31_1_2 := F72.out.2.1.fz 2
          have l31_2 := F72.out.2.2.1.lt
          have a31_2_0 := F72.out.2.2.1.cell 0 _ rfl
          have f31_2_0 := F72.out.2.2.1.fz 0
          have a31_2_1 := F72.out.2.2.1.cell 1 _ rfl
          have f31_2_1 := F72.out.2.2.1.fz 1
          have a31_2_2 := F72.out.2.2.1.cell 2 _ rfl
          have f31_2_2 := F72.out.2.2.1.fz 2
          have ne31_0_1 : ¬ w.heap.size = w.heap.size + 1 := by omega
          have ne31_0_2 : ¬ w.heap.size = w72.heap.size := by omega
          have ne31_1_0 : ¬ w.heap.size + 1 = w.heap.size := by omega
          have ne31_1_2 : ¬ w.heap.size + 1 = w72.heap.size := by omega
          have ne31_2_0 : ¬ w72.heap.size = w.heap.size := by omega
          have ne31_2_1 : ¬ w72.heap.size = w.heap.size + 1 := by omega
          go_wp2
          refine bodyPost_ret (v := .agg #[.string e1, .int .i64 e2, .bool false]) (by simp [results, Tryz.results35, go_sem, World.cell?_setCell_same, World.cell?_setCell_other, *]) rfl ⟨rfl, ?_⟩
          repeat (first | refine Below.setCell ?_ (by first | exact Nat.le_refl _ | (dsimp only; omega)) _ | refine Below.alloc ?_ (by first | exact Nat.le_refl _ | omega | (simp; omega)) _ | refine Below.drew ?_)
          exact F72.out.2.2.2
theorem raf_big {u e1 : ByteArray} {o e2 : Int} {n k : Nat} (hs : u.size ≤ n) (n8 : n ≤ 800) (hd : DG u) (ho : -1099511627776 ≤ o) (ho2 : o ≤ 1099511627776) (kn : k ≤ n) (h9 : ∀ i, k ≤ i → i < n → dgt u i = 57) (hk : 0 < k → dgt u (k - 1) ≠ 57) (M2 : ∀ v : ByteArray, v.size = n + 1 → (∀ i, i < n + 1 → dgt v i = incT u k i) → ∀ W, Calls Tryz.prog 46 #[.string v, .int .i64 (o + 1), .bool false] W fun e w' => e = .returned (.tuple #[.agg #[.string e1, .int .i64 e2, .bool false], .int .i64 4]) ∧ Below W.heap.size W w') (w : World) :
    Calls Tryz.prog 35 #[.agg #[.string u, .int .i64 o, .bool false], .int .i64 (n : Int)] w fun x w' => x = .returned (.agg #[.string ⟨#[49]⟩, .int .i64 1099511627777, .bool false]) ∧ Below w.heap.size w w' := by
  have n0 : ¬ (n : Int) < 0 := by omega
  have ni : ((n : Int)).toNat = n := by omega
  have HP : Hid ((∀ i, k ≤ i → i < n → dgt u i = 57) ∧ (0 < k → dgt u (k - 1) ≠ 57) ∧ k ≤ n ∧ DG u ∧ n ≤ 800) := ⟨h9, hk, kn, hd, n8⟩
  have HM2 : Hid (∀ v : ByteArray, v.size = n + 1 → (∀ i, i < n + 1 → dgt v i = incT u k i) → ∀ W, Calls Tryz.prog 46 #[.string v, .int .i64 (o + 1), .bool false] W fun e w' => e = .returned (.tuple #[.agg #[.string e1, .int .i64 e2, .bool false], .int .i64 4]) ∧ Below W.heap.size W w') := M2
  obtain ⟨i0, hi, hz0, hz1, hz2⟩ := info_parts info_b8
  have wn : IntKind.i64.wrap ((n : Int) + 1) = ((n + 1 : Nat) : Int) := by
    unfold IntKind.wrap
    simp [IntKind.bits, IntKind.signed]
    omega
  clear h9 hk kn hd M2
  have F0 : Hid (Bk ((w.alloc (.cells #[.string u, .int .i64 o, .bool false] 24)).alloc (.cells #[.string ⟨#[]⟩, .int .i64 0, .bool false] 24)) (w.heap.size) [.string u, .int .i64 o, .bool false] ∧ Bk ((w.alloc (.cells #[.string u, .int .i64 o, .bool false] 24)).alloc (.cells #[.string ⟨#[]⟩, .int .i64 0, .bool false] 24)) (w.heap.size + 1) [.string ⟨#[]⟩, .int .i64 0, .bool false] ∧ Below w.heap.size w ((w.alloc (.cells #[.string u, .int .i64 o, .bool false] 24)).alloc (.cells #[.string ⟨#[]⟩, .int .i64 0, .bool false] 24))) := ⟨(Bk.new3 w (.string u) (.int .i64 o) (.bool false) 24).step ((Below.refl _ _).alloc (Nat.le_refl _) _), ((by have q := Bk.new3 (w.alloc (.cells #[.string u, .int .i64 o, .bool false] 24)) (.string ⟨#[]⟩) (.int .i64 0) (.bool false) 24; simpa using q) : Bk ((w.alloc (.cells #[.string u, .int .i64 o, .bool false] 24)).alloc (.cells #[.string ⟨#[]⟩, .int .i64 0, .bool false] 24)) (w.heap.size + 1) [.string ⟨#[]⟩, .int .i64 0, .bool false]), (((Below.refl w.heap.size w)).alloc (Nat.le_refl _) _).alloc ((((Below.refl w.heap.size w)).alloc (Nat.le_refl _) _).size) _⟩
  go_enter Tryz.func35, Tryz.ntmps35
  go_upto_region 1 with fail
  generalize ((w.alloc (.cells #[.string u, .int .i64 o, .bool false] 24)).alloc (.cells #[.string ⟨#[]⟩, .int .i64 0, .bool false] 24)) = w1 at *
  have l1_0 := F0.out.1.lt
  have a1_0_0 := F0.out.1.cell 0 _ rfl
  have f1_0_0 := F0.out.1.fz 0
  have a1_0_1 := F0.out.1.cell 1 _ rfl
  have f1_0_1 := F0.out.1.fz 1
  have a1_0_2 := F0.out.1.cell 2 _ rfl
  have f1_0_2 := F0.out.1.fz 2
  have l1_1 := F0.out.2.1.lt
  have a1_1_0 := F0.out.2.1.cell 0 _ rfl
  have f1_1_0 := F0.out.2.1.fz 0
  have a1_1_1 := F0.out.2.1.cell 1 _ rfl
  have f1_1_1 := F0.out.2.1.fz 1
  have a1_1_2 := F0.out.2.1.cell 2 _ rfl
  have f1_1_2 := F0.out.2.1.fz 2
  have ne1_0_1 : ¬ w.heap.size = w.heap.size + 1 := by omega
  have ne1_1_0 : ¬ w.heap.size + 1 = w.heap.size := by omega
  obtain ⟨t, ht⟩ : ∃ t, t = (⟨#[48]⟩ ++ u : ByteArray) := ⟨_, rfl⟩
  obtain ⟨ts, td⟩ := dgt_zero_all ht
  obtain ⟨W1, C0, hcv, hbW, R0⟩ := rw_start w1 t
  rw [ts] at hcv R0
  have HT : Hid (∀ i, i < n + 1 → dgt t i = zeroT u i) := fun i _ => td i
  have HZ : Hid (∀ i, u.size + 1 ≤ i → dgt t i = 48) := fun i a => dgt_ge (by omega)
  rw [ht] at hcv
  have su : ¬ 9223372036854775807 < 1 + u.size := by omega
  have su2 : ¬ 9223372036854775807 < u.size + 1 := by omega
  go_wp2
  clear ht
  have lk0 := (F0.out.1).lt
  have lk1 := (F0.out.2.1).lt
  have lw := (F0.out.2.2).size
  have IB : Hid (Bk W1 (w.heap.size) [.string u, .int .i64 o, .bool false] ∧ Bk W1 (w.heap.size + 1) [.string ⟨#[]⟩, .int .i64 0, .bool false] ∧ Rx (w1.heap.size) W1 t (.slice (some ⟨w1.heap.size, 0, none⟩) (u.size + 1) C0) (u.size + 1) ∧ Below w.heap.size w W1) := ⟨(F0.out.1).step hbW, (F0.out.2.1).step hbW, ⟨_, _, R0⟩, (F0.out.2.2).trans (hbW.mono (F0.out.2.2).size)⟩
  clear l1_0 a1_0_0 f1_0_0 a1_0_1 f1_0_1 a1_0_2 f1_0_2 l1_1 a1_1_0 f1_1_0 a1_1_1 f1_1_1 a1_1_2 f1_1_2 F0 R0 hbW hcv
  go_loopw [5] (fun v wr => ∃ kk : Nat, u.size + 1 ≤ kk ∧ kk ≤ n + 1 ∧ Hid (Bk wr (w.heap.size) [.string u, .int .i64 o, .bool false] ∧ Bk wr (w.heap.size + 1) [.string ⟨#[]⟩, .int .i64 0, .bool false] ∧ Rx (w1.heap.size) wr t v kk ∧ Below w.heap.size w wr)) (fun v _ => (n + 1) - lenS v)
  case atStart => exact ⟨u.size + 1, Nat.le_refl _, by omega, IB.out⟩
  case round =>
    obtain ⟨q, hmk, hkn, HB⟩ := hrel
    clear IB
    obtain ⟨g, cap, BS⟩ := HB.out.2.2.1
    have hv := BS.val
    subst hv
    have HS : Hid (Rw (w1.heap.size) wr t (.slice (some ⟨g, 0, none⟩) q cap) q g cap) := BS
    have HR : Hid (Bk wr (w.heap.size) [.string u, .int .i64 o, .bool false] ∧ Bk wr (w.heap.size + 1) [.string ⟨#[]⟩, .int .i64 0, .bool false] ∧ Below w.heap.size w wr) := ⟨HB.out.1, HB.out.2.1, HB.out.2.2.2⟩
    clear HB BS
    have glt := HS.out.lt
    have glo := HS.out.lo
    have gle := HS.out.le
    have sb := HR.out.2.2.size
    by_cases c : q < n + 1
    · have dk : Hid (dgt t q = 48) := HZ.out q hmk
      go_wp2_with (first
        | (at_builtin; refine wpList_append_arg _ rfl _ _ 88 rfl 5 i0 (.int .u8 0) 1 1 und_bytes48 hi hz0 hz1 hz2 rfl (by decide) g 0 q cap (dgV t q) rfl ?a1 ?a2 ⟨wr.heap.size, 0, none⟩ 1 1 [.int .u8 48] rfl rfl ?a3 ?a4 ?a5 ?a6 ?a7 ?a8 ?a9)
        | go_in)
      case a1 => rw [dgV_len]; omega
      case a2 =>
        intro j u hj
        obtain ⟨hj', rfl⟩ := dgV_at hj
        rw [Nat.zero_add, World.cell?_alloc_lt _ _ ⟨g, j, none⟩ glt]
        exact HS.out.cells j hj'
      case a3 =>
        intro j u hj
        match j, hj with
        | 0, hj =>
          obtain rfl := Option.some.inj hj
          exact one_byte wr
        | j + 1, hj => simp at hj
      case a4 =>
        intro u hu
        obtain rfl := List.mem_singleton.1 hu
        rfl
      case a5 =>
        intro hc j hj
        have hj' : j = 0 := by have : j < 1 := hj; omega
        subst hj'
        have sp := HS.out.step ((Below.refl wr.heap.size wr).alloc (Nat.le_refl _) (.cells #[.int .u8 48] 5))
        rw [show 0 + q * 1 + 0 = q by omega]
        exact ⟨sp.spare q (Nat.le_refl _) (by omega), sp.fr q (by omega)⟩
      case a6 => unfold maxLen; omega
      case a7 => omega
      case a8 =>
        intro hc
        have HS2 : Hid (Rw (w1.heap.size) ((wr.alloc (.cells #[.int .u8 48] 5)).setCells g q [.int .u8 48]) t (.slice (some ⟨g, 0, none⟩) (q + 1) cap) (q + 1) g cap) := by
          have z := (HS.out.step ((Below.refl wr.heap.size wr).alloc (Nat.le_refl _) (.cells #[.int .u8 48] 5))).room hc dk.out
          rw [show 0 + q * 1 = q by omega] at z
          exact z
        have HB2 : Hid (Bk ((wr.alloc (.cells #[.int .u8 48] 5)).setCells g q [.int .u8 48]) (w.heap.size) [.string u, .int .i64 o, .bool false] ∧ Bk ((wr.alloc (.cells #[.int .u8 48] 5)).setCells g q [.int .u8 48]) (w.heap.size + 1) [.string ⟨#[]⟩, .int .i64 0, .bool false] ∧ Below w.heap.size w ((wr.alloc (.cells #[.int .u8 48] 5)).setCells g q [.int .u8 48])) := ⟨setCells_bk ((HR.out.1).step ((Below.refl wr.heap.size wr).alloc (Nat.le_refl _) (.cells #[.int .u8 48] 5))) (by omega) _ _, setCells_bk ((HR.out.2.1).step ((Below.refl wr.heap.size wr).alloc (Nat.le_refl _) (.cells #[.int .u8 48] 5))) (by omega) _ _, setCells_below ((HR.out.2.2).alloc sb _) (by omega) _⟩
        go_wp2
        go_roundw
        case rel => exact ⟨q + 1, by omega, by omega, ⟨HB2.out.1, HB2.out.2.1, ⟨_, _, HS2.out⟩, HB2.out.2.2⟩⟩
        case measure => simp [lenS]; omega
      case a9 =>
        intro hc v' W2 hown hgrow
        have HB2 : Hid (Bk W2 (w.heap.size) [.string u, .int .i64 o, .bool false] ∧ Bk W2 (w.heap.size + 1) [.string ⟨#[]⟩, .int .i64 0, .bool false] ∧ Below w.heap.size w W2) := ⟨((HR.out.1).step ((Below.refl wr.heap.size wr).alloc (Nat.le_refl _) (.cells #[.int .u8 48] 5))).step ((Below.refl _ _).grown hgrow (Nat.le_refl _) (fun q hq => by cases hq)), ((HR.out.2.1).step ((Below.refl wr.heap.size wr).alloc (Nat.le_refl _) (.cells #[.int .u8 48] 5))).step ((Below.refl _ _).grown hgrow (Nat.le_refl _) (fun q hq => by cases hq)), ((HR.out.2.2).alloc sb _).grown hgrow (by first | omega | (rw [World.size_alloc]; omega)) (fun q hq => by cases hq)⟩
        obtain ⟨g2, cap2, BS2⟩ := rw_grown (N := w1.heap.size) hown (by first | omega | (rw [World.size_alloc]; omega)) dk.out
        have hv2 := BS2.val
        subst hv2
        have HS2 : Hid (Rw (w1.heap.size) W2 t (.slice (some ⟨g2, 0, none⟩) (q + 1) cap2) (q + 1) g2 cap2) := BS2
        clear BS2 hown hgrow
        go_wp2
        go_roundw
        case rel => exact ⟨q + 1, by omega, by omega, ⟨HB2.out.1, HB2.out.2.1, ⟨_, _, HS2.out⟩, HB2.out.2.2⟩⟩
        case measure => simp [lenS]; omega
    · obtain rfl : q = n + 1 := by omega
      have F40 : Hid (Bk wr (w.heap.size) [.string u, .int .i64 o, .bool false] ∧ Bk wr (w.heap.size + 1) [.string ⟨#[]⟩, .int .i64 0, .bool false] ∧ Below w.heap.size w wr) := HR.out
      clear HR
      have l21_0 := F40.out.1.lt
      have a21_0_0 := F40.out.1.cell 0 _ rfl
      have f21_0_0 := F40.out.1.fz 0
      have a21_0_1 := F40.out.1.cell 1 _ rfl
      have f21_0_1 := F40.out.1.fz 1
      have a21_0_2 := F40.out.1.cell 2 _ rfl
      have f21_0_2 := F40.out.1.fz 2
      have l21_1 := F40.out.2.1.lt
      have a21_1_0 := F40.out.2.1.cell 0 _ rfl
      have f21_1_0 := F40.out.2.1.fz 0
      have a21_1_1 := F40.out.2.1.cell 1 _ rfl
      have f21_1_1 := F40.out.2.1.fz 1
      have a21_1_2 := F40.out.2.1.cell 2 _ rfl
      have f21_1_2 := F40.out.2.1.fz 2
      have ne21_0_1 : ¬ w.heap.size = w.heap.size + 1 := by omega
      have ne21_1_0 : ¬ w.heap.size + 1 = w.heap.size := by omega
      go_wp2
      clear l21_0 a21_0_0 f21_0_0 a21_0_1 f21_0_1 a21_0_2 f21_0_2 l21_1 a21_1_0 f21_1_0 a21_1_1 f21_1_1 a21_1_2 f21_1_2
      have lm0 := (F40.out.1).lt
      have lm1 := (F40.out.2.1).lt
      have IB : Hid (Bk wr (w.heap.size) [.string u, .int .i64 o, .bool false] ∧ Bk wr (w.heap.size + 1) [.string ⟨#[]⟩, .int .i64 0, .bool false] ∧ BR wr g (n + 1) (dgt t) ∧ Below w.heap.size w wr) := ⟨F40.out.1, F40.out.2.1, HS.out.br, F40.out.2.2⟩
      have hcap := HS.out.le
      clear F40 HS
      go_loopw [6] (fun iv wr => ∃ (j : Nat) (F : Nat → Nat), iv = .int .i64 (j : Int) ∧ k ≤ j ∧ j ≤ n ∧ Hid (Bk wr (w.heap.size) [.string u, .int .i64 o, .bool false] ∧ Bk wr (w.heap.size + 1) [.string ⟨#[]⟩, .int .i64 0, .bool false] ∧ BR wr (g) (n + 1) F ∧ Below w.heap.size w wr) ∧ Hid ((∀ i, i ≤ j → F i = zeroT u i) ∧ (∀ i, j < i → i < n + 1 → F i = 48))) (fun iv _ => (intOf iv).toNat)
      case atStart => exact ⟨n, dgt t, rfl, HP.out.2.2.1, Nat.le_refl _, IB.out, fun i hi => HT.out i (by omega), fun i a b => absurd a (by omega)⟩
      case round =>
        obtain ⟨j, F, rfl, hkj, hjn, HB, HF⟩ := hrel
        clear IB
        have ix : ((j : Int)).toNat = j := by omega
        have hg := HB.out.2.2.1.lt
        by_cases c1 : k < j
        · have e9 : F j = 57 := by
            rw [HF.out.1 j (Nat.le_refl _)]
            unfold zeroT
            rw [if_neg (by omega)]
            exact HP.out.1 (j - 1) (by omega) (by omega)
          have hc := HB.out.2.2.1.row.cell j (by omega)
          have hf := HB.out.2.2.1.row.fr j (by omega)
          rw [e9] at hc
          clear e9
          go_wp2
          go_roundw
          case rel =>
            refine ⟨j - 1, putF F j 48, by go_num, by omega, by omega, ⟨(HB.out.1).setC (by omega) _ _, (HB.out.2.1).setC (by omega) _ _, (HB.out.2.2.1).set (by omega) 48, (HB.out.2.2.2).setCell (by show w.heap.size ≤ g; omega) _⟩, fun i hi => ?_, fun i a b => ?_⟩
            · unfold putF
              rw [if_neg (by omega)]
              exact HF.out.1 i (by omega)
            · unfold putF
              by_cases z : i = j
              · rw [if_pos z]
              · rw [if_neg z]; exact HF.out.2 i (by omega) b
          case measure => simp [intOf]; omega
        · obtain rfl : j = k := by omega
          obtain ⟨y, hy⟩ : ∃ y, y = zeroT u j := ⟨_, rfl⟩
          have ey : F j = y := (HF.out.1 j (Nat.le_refl _)).trans hy.symm
          have hc := HB.out.2.2.1.row.cell j (by omega)
          have hf := HB.out.2.2.1.row.fr j (by omega)
          rw [ey] at hc
          have y9 : y < 57 := by
            rw [hy]
            unfold zeroT
            by_cases z : j = 0
            · rw [if_pos z]; omega
            · rw [if_neg z]
              have := HP.out.2.1 (by omega)
              have := dgt_in HP.out.2.2.2.1 (j - 1)
              omega
          have HYY : Hid (y = zeroT u j) := hy
          have e9 : ((y : Int) == 57) = false := beq_eq_false_iff_ne.mpr (by omega)
          obtain ⟨y1, hy1⟩ : ∃ y1, y1 = y + 1 := ⟨_, rfl⟩
          have HY1 : Hid (y1 = y + 1) := hy1
          have wx : IntKind.u8.wrap ((y : Int) + 1) = (y1 : Int) := by
            rw [hy1]
            unfold IntKind.wrap
            simp [IntKind.bits, IntKind.signed]
            omega
          clear hy ey hy1
          have RB := (HB.out.2.2.1).set (i := j) (by omega) y1
          obtain ⟨v, vs, vd, vc⟩ := row_text (C := cap) RB (fun i hi => by
            unfold putF
            split
            · have := HY1.out; omega
            · rcases Nat.lt_or_ge i j with q | q
              · rw [HF.out.1 i (by omega)]
                unfold zeroT
                split
                · omega
                · have := dgt_in HP.out.2.2.2.1 (i - 1); omega
              · rw [HF.out.2 i (by omega) hi]; omega)
          have vcv := vc _ (fun i _ => rfl)
          have HV : Hid (∀ i, i < n + 1 → dgt v i = incT u j i) := fun i hi => by
            rw [vd i hi]
            unfold putF incT
            by_cases z : i = j
            · rw [if_pos z, if_neg (by omega), if_pos z, HY1.out, HYY.out]
            · rw [if_neg z]
              by_cases q : i < j
              · rw [if_pos q]; exact HF.out.1 i (by omega)
              · rw [if_neg q, if_neg z]; exact HF.out.2 i (by omega) hi
          have MM := HM2.out v vs HV.out
          have wo : IntKind.i64.wrap (o + 1) = o + 1 := by
            unfold IntKind.wrap
            simp [IntKind.bits, IntKind.signed]
            omega
          have F70 : Hid (Bk (wr.setCell ⟨g, j, none⟩ (.int .u8 (y1 : Int))) (w.heap.size) [.string u, .int .i64 o, .bool false] ∧ Bk (wr.setCell ⟨g, j, none⟩ (.int .u8 (y1 : Int))) (w.heap.size + 1) [.string ⟨#[]⟩, .int .i64 0, .bool false] ∧ Below w.heap.size w (wr.setCell ⟨g, j, none⟩ (.int .u8 (y1 : Int)))) := ⟨(HB.out.1).setC (by omega) _ _, (HB.out.2.1).setC (by omega) _ _, (HB.out.2.2.2).setCell (by show w.heap.size ≤ g; omega) _⟩
          clear RB vc vd
          go_upto_region 9 with fail
          generalize (wr.setCell ⟨g, j, none⟩ (.int .u8 (y1 : Int))) = w71 at *
          have hco := (F70.out.1).cell 1 _ rfl
          go_wp2_with fail
          all_goals first | (exfalso; omega) | skip
          refine (MM _).mono ?_
          rintro o72 w72 ⟨rfl, bb⟩
          have F71 : Hid (Bk w72 (w.heap.size) [.string u, .int .i64 o, .bool false] ∧ Bk w72 (w.heap.size + 1) [.string ⟨#[]⟩, .int .i64 0, .bool false] ∧ Below w.heap.size w w72) := ⟨(F70.out.1).step bb, (F70.out.2.1).step bb, (F70.out.2.2).trans (bb.mono (F70.out.2.2).size)⟩
          clear F70
          clear bb
          clear hco vcv
          have lt0_2 := (F71.out.1).lt
          have lt1_2 := (F71.out.2.1).lt
          have le2 := (F71.out.2.2).size
          have F72 : Hid (Bk (w72.alloc (.cells #[.string e1, .int .i64 e2, .bool false] 24)) (w.heap.size) [.string u, .int .i64 o, .bool false] ∧ Bk (w72.alloc (.cells #[.string e1, .int .i64 e2, .bool false] 24)) (w.heap.size + 1) [.string ⟨#[]⟩, .int .i64 0, .bool false] ∧ Bk (w72.alloc (.cells #[.string e1, .int .i64 e2, .bool false] 24)) (w72.heap.size) [.string e1, .int .i64 e2, .bool false] ∧ Below w.heap.size w (w72.alloc (.cells #[.string e1, .int .i64 e2, .bool false] 24))) := ⟨(F71.out.1).step ((Below.refl _ _).alloc (Nat.le_refl _) _), (F71.out.2.1).step ((Below.refl _ _).alloc (Nat.le_refl _) _), Bk.new3 w72 (.string e1) (.int .i64 e2) (.bool false) 24, (F71.out.2.2).alloc ((F71.out.2.2).size) _⟩
          clear F71
          go_upto_region 10 with fail
          generalize (w72.alloc (.cells #[.string e1, .int .i64 e2, .bool false] 24)) = w73 at *
          have l31_0 := F72.out.1.lt
          have a31_0_0 := F72.out.1.cell 0 _ rfl
          have f31_0_0 := F72.out.1.fz 0
          have a31_0_1 := F72.out.1.cell 1 _ rfl
          have f31_0_1 := F72.out.1.fz 1
          have a31_0_2 := F72.out.1.cell 2 _ rfl
          have f31_0_2 := F72.out.1.fz 2
          have l31_1 := F72.out.2.1.lt
          have a31_1_0 := F72.out.2.1.cell 0 _ rfl
          have f31_1_0 := F72.out.2.1.fz 0
          have a31_1_1 := F72.out.2.1.cell 1 _ rfl
          have f31_1_1 := F72.out.2.1.fz 1
          have a31_1_2 := F72.out.2.1.cell 2 _ rfl
          have f31_1_2 := F72.out.2.1.fz 2
          have l31_2 := F72.out.2.2.1.lt
          have a31_2_0 := F72.out.2.2.1.cell 0 _ rfl
          have f31_2_0 := F72.out.2.2.1.fz 0
          have a31_2_1 := F72.out.2.2.1.cell 1 _ rfl
          have f31_2_1 := F72.out.2.2.1.fz 1
          have a31_2_2 := F72.out.2.2.1.cell 2 _ rfl
          have f31_2_2 := F72.out.2.2.1.fz 2
          have ne31_0_1 : ¬ w.heap.size = w.heap.size + 1 := by omega
          have ne31_0_2 : ¬ w.heap.size = w72.heap.size := by omega
          have ne31_1_0 : ¬ w.heap.size + 1 = w.heap.size := by omega
          have ne31_1_2 : ¬ w.heap.size + 1 = w72.heap.size := by omega
          have ne31_2_0 : ¬ w72.heap.size = w.heap.size := by omega
          have ne31_2_1 : ¬ w72.heap.size = w.heap.size + 1 := by omega
          go_wp2
          refine bodyPost_ret (v := .agg #[.string ⟨#[49]⟩, .int .i64 1099511627777, .bool false]) (by simp [results, Tryz.results35, go_sem, World.cell?_setCell_same, World.cell?_setCell_other, *]) rfl ⟨rfl, ?_⟩
          repeat (first | refine Below.setCell ?_ (by first | exact Nat.le_refl _ | (dsimp only; omega)) _ | refine Below.alloc ?_ (by first | exact Nat.le_refl _ | omega | (simp; omega)) _ | refine Below.drew ?_)
          exact F72.out.2.2.2
end Go.Proofs.YtblkokjkmbpejaaGreatDoor
