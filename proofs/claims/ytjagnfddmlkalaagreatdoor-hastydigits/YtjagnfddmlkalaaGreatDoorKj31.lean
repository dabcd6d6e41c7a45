/-
  Holds: IvT.
-/
import Derived.Test.YtjagnfddmlkalaaGreatDoorRows
import Derived.Laws.Externs
import Derived.WalkKit
import Derived.WalkSpells
import Derived.WalkLawsBesides
import Derived.Lib.Mul64
import Derived.Lib.TrailingZeros
import Derived.Lib.ItoaNum
import Derived.Deep.OwnRows
import Derived.Laws.CopyOwn
import Derived.BigQuiet
import Derived.Deep.RegionHeld3
import Derived.Deep.LoopGhost
import Derived.Deep.AppendLies
import Derived.Stop.Asserts
import Derived.RowKitTokens
import Derived.Lib.Strings
import Derived.Lib.BufferWrite
import Derived.Lib.ConvBytes
import Derived.Test.YtjagnfddmlkalaaGreatDoorKj9
import Derived.Test.YtjagnfddmlkalaaGreatDoorKj23
set_option maxRecDepth 100000
set_option maxHeartbeats 4000000
namespace Go.Proofs.YtjagnfddmlkalaaGreatDoor
open Go.RowKit
def Gx (X : Nat) (t : ByteArray) : Prop := (0 < t.size → 10 ^ (t.size - 1) ≤ X) ∧ DG t ∧ pv t t.size = X % 10 ^ t.size
theorem gx_nil (X : Nat) : Gx X ⟨#[]⟩ := ⟨fun h => absurd h (by show ¬ 0 < 0; omega), fun k h => absurd h (by show ¬ k < 0; omega), by show 0 = X % 10 ^ 0; rw [Nat.pow_zero, Nat.mod_one]⟩
theorem dgt_app0 {a t : ByteArray} (h : a.size = 1) : dgt (a ++ t) 0 = dgt a 0 := by
 rw [dgt_lt (by rw [ByteArray.size_append]; omega), dgt_lt (by omega), ByteArray.getElem_append_left (by omega)]
theorem dgt_app1 {a t : ByteArray} (h : a.size = 1) (i : Nat) : dgt (a ++ t) (i + 1) = dgt t i := by
 by_cases c : i < t.size
 · rw [dgt_lt (by rw [ByteArray.size_append]; omega), dgt_lt c, ByteArray.getElem_append_right (by omega)]
   congr 2
   omega
 · rw [dgt_ge (by rw [ByteArray.size_append]; omega), dgt_ge (by omega)]
theorem pv_app {a t : ByteArray} (h : a.size = 1) : ∀ n, pv (a ++ t) (n + 1) = (dgt a 0 - 48) * 10 ^ n + pv t n
  | 0 => by
    show 10 * 0 + (dgt (a ++ t) 0 - 48) = _ + 0
    rw [dgt_app0 h, Nat.pow_zero, Nat.mul_one]
    omega
  | n + 1 => by
    have ih := pv_app (t := t) h n
    show 10 * pv (a ++ t) (n + 1) + (dgt (a ++ t) (n + 1) - 48) = _ + (10 * pv t n + (dgt t n - 48))
    rw [ih, dgt_app1 h n, Nat.pow_succ, ← Nat.mul_assoc]
    omega
theorem tenB_key : ∀ k : Fin 10, dgt tenB k.val = 48 + k.val := by decide
theorem tenB_dgt : ∀ d, d < 10 → dgt (tenB.extract d (d + 1)) 0 = 48 + d := by
 intro d hd
 have hs : 0 < (tenB.extract d (d + 1)).size := by rw [tenB_size hd]; omega
 have hs2 : d < tenB.size := hd
 have q := tenB_key ⟨d, hd⟩
 rw [show (⟨d, hd⟩ : Fin 10).val = d from rfl, dgt_lt hs2] at q
 rw [dgt_lt hs, ByteArray.getElem_extract]
 simp only [Nat.add_zero]
 exact q
theorem gx_step {X Y k r : Nat} {t : ByteArray} (hk : k < 9) (h : Y * 10 ^ (9 - k) + r = X / 10 ^ t.size) (g : Gx X t) (h0 : 10 ^ t.size ≤ X) : Gx X (tenB.extract (r % 10) (r % 10 + 1) ++ t) := by
 have hd : r % 10 < 10 := Nat.mod_lt _ (by omega)
 have one := tenB_size hd
 have sz : (tenB.extract (r % 10) (r % 10 + 1) ++ t).size = t.size + 1 := by rw [ByteArray.size_append]; omega
 have e : 10 ^ (9 - k) = 10 ^ (9 - (k + 1)) * 10 := by rw [← Nat.pow_succ]; congr 1; omega
 have q : X / 10 ^ t.size % 10 = r % 10 := by
  rw [← h, e, ← Nat.mul_assoc, Nat.add_comm, Nat.add_mul_mod_self_right]
 have d0 := tenB_dgt _ hd
 refine ⟨fun _ => by rw [sz, Nat.add_sub_cancel]; exact h0, ?_, ?_⟩
 · intro i hi
   rw [← dgt_lt hi]
   rcases Nat.eq_zero_or_pos i with z | z
   · rw [z, dgt_app0 one, d0]; omega
   · obtain ⟨j, rfl⟩ : ∃ j, i = j + 1 := ⟨i - 1, by omega⟩
     rw [dgt_app1 one]
     exact dgt_in g.2.1 j
 · rw [sz, pv_app one, d0, g.2.2, Nat.mod_pow_succ, q, Nat.add_sub_cancel_left, Nat.mul_comm, Nat.add_comm]
theorem decimal_ok {w : World} {va : Value} {X : Nat} (ha : Big.D.NatV w va X) (h0 : X ≠ 0) (hX : Fits 400 X) :
 Calls Tryz.prog 77 #[va] w fun e w' => ∃ t : ByteArray, e = .returned (.string t) ∧ Tx X t ∧ Below w.heap.size w w' := by
 obtain ⟨ao, n, c, b, o, f, rfl, S, tp, hv⟩ := ha
 have hn := big_len tp (by rw [hv]; exact hX)
 have n0 : 0 < n := by
  rcases Nat.eq_zero_or_pos n with z | z
  · subst z; exact absurd hv.symm h0
  · exact z
 obtain rfl := S.addr n0
 obtain ⟨i0, hi, hz0, hz1, hz2⟩ := info_parts Big.D.info_u64
 have hnews : ∀ j u, (dV .u64 f n)[j]? = some u → w.cell? ((⟨b, o, none⟩ : Addr).add j) = some u := fun j u hu => by
  by_cases hj : j < n
  · rw [dV_get hj] at hu
    rw [← Option.some.inj hu]
    have q := S.cell j hj
    by_cases z : j = 0
    · subst z; simpa [Addr.add] using q
    · simpa [Addr.add, z] using q
  · rw [List.getElem?_eq_none (by unfold dV; simp; omega)] at hu
    cases hu
 have hone : ∀ u ∈ dV .u64 f n, u.oneCell' = true := fun u hu => by
  unfold dV at hu
  obtain ⟨i, _, rfl⟩ := List.mem_map.1 hu
  rfl
 have HX : Hid (X ≠ 0 ∧ Fits 400 X ∧ Big.Top f n ∧ Big.V f n = X ∧ Big.Ws f) := ⟨h0, hX, tp, hv, S.ws⟩
 have HW : Hid (∀ j u, (dV .u64 f n)[j]? = some u → w.cell? ((⟨b, o, none⟩ : Addr).add j) = some u) := hnews
 have HO : Hid (∀ u ∈ dV .u64 f n, u.oneCell' = true) := hone
 have hlen : Hid ((dV .u64 f n).length = n * 1) := by show _ = _; unfold dV; simp
 clear S tp hv h0 hX hnews hone
 go_enter Tryz.func77, Tryz.ntmps77
 go_wp2_with (first
  | (at_builtin; refine wpList_append_own _ rfl _ _ 82 rfl w.heap.size 22 i0 (.int .u64 0) 1 8 Big.D.und_big13 hi hz0 hz1 hz2 rfl (by decide) _ 0 [] rfl (World.ownsRow_nil _ _ _ _) ⟨b, o, none⟩ n c (dV .u64 f n) rfl hlen.out HW.out HO.out (by unfold maxLen; omega) (by omega) (Nat.le_refl _) ?_)
  | go_in)
 intro v1 w1 hown hgrow hnil
 obtain ⟨g, cap, rfl, hc1, hc2, hbg, D1⟩ := own_dr hown HX.out.2.2.2.2 n0
 have B1 : Below w.heap.size w w1 := (Below.refl _ _).grown hgrow (Nat.le_refl _) (fun q hq => by cases hq)
 clear hown hgrow hnil HW HO hlen
 have HC : Hid (cap ≤ maxLen) := hc2
 unfold maxLen at hc2
 go_wp2
 go_loopg [3, 4, 5, 6, 7, 8] X (fun gk sv bv _ _ _ _ wr => ∃ (m : Nat) (t : ByteArray) (F : Nat → Nat), sv = .string t ∧ bv = .slice (some ⟨g, 0, none⟩) m cap ∧ m ≤ n ∧ Dr wr g m F ∧ t.size ≤ 13000 ∧ Below w.heap.size w wr ∧ Hid (Big.Top F m ∧ Big.V F m = gk ∧ gk = X / 10 ^ t.size ∧ Gx X t))
 case atStart => exact ⟨n, ⟨#[]⟩, f, rfl, rfl, Nat.le_refl _, D1, by show 0 ≤ 13000; omega, B1, HX.out.2.2.1, HX.out.2.2.2.1, by show X = X / 10 ^ 0; rw [Nat.pow_zero, Nat.div_one], gx_nil X⟩
 case round =>
  clear D1 B1
  obtain ⟨m, t, F, rfl, rfl, hm, D1, ht, B1, HI⟩ := hrel
  have hsz := B1.size
  by_cases c1 : 0 < m
  · have hg0 : gk ≠ 0 := by
     have q := Big.Top_ge HI.out.1 c1
     have := Nat.pow_pos (n := m - 1) Big.B_pos
     have := HI.out.2.1
     omega
    have HG : Hid (gk ≠ 0) := hg0
    have HDB : Hid (Dr wr g m F ∧ Below w.heap.size w wr) := ⟨D1, B1⟩
    have c1' : (0 : Int) < (m : Int) := by omega
    clear hg0 D1 B1
    go_wp2
    go_loopw [5, 6, 7] (fun rv iv _ w2 => ∃ (k l : Nat) (F' : Nat → Nat), rv = .int .u64 (l : Int) ∧ iv = .int .i64 ((k : Int) - 1) ∧ k ≤ m ∧ l < 1000000000 ∧ Dr w2 g m F' ∧ Below w.heap.size w w2 ∧ Hid ((∀ j, j < k → F' j = F j) ∧ Big.V (fun i => F' (k + i)) (m - k) = Big.V (fun i => F (k + i)) (m - k) / 1000000000 ∧ l = Big.V (fun i => F (k + i)) (m - k) % 1000000000)) (fun _ iv _ _ => (intOf iv + 1).toNat)
    case atStart => exact ⟨m, 0, F, rfl, rfl, Nat.le_refl _, by omega, HDB.out.1, HDB.out.2, fun _ _ => rfl, by rw [Nat.sub_self, Big.V_zero, Nat.zero_div], by rw [Nat.sub_self, Big.V_zero, Nat.zero_mod]⟩
    case round =>
     clear HDB
     obtain ⟨k, l, F', rfl, rfl, hk, hl, D2, B2, HV⟩ := hrel
     by_cases c2 : 0 < k
     · obtain ⟨j, rfl⟩ : ∃ j, k = j + 1 := ⟨k - 1, by omega⟩
       have hj : j < m := by omega
       have cz := D2.cell j hj
       have fz := D2.fz j
       have hx := D2.ws j
       have hfit := by_fits (d := 1000000000) hl hx
       obtain ⟨s1, s2⟩ := by_stepB (T := Big.V (fun i => F (j + 1 + i)) (m - (j + 1))) (x := F j) (d := 1000000000) (by omega)
       have hFj : F' j = F j := HV.out.1 j (by omega)
       rw [← HV.out.2.2, ← V_topB F j m hj, ← hFj] at s1 s2
       have hml : (l * Big.B + F' j) % 1000000000 < 1000000000 := Nat.mod_lt _ (by omega)
       have htot : l * 4294967296 + F' j < 18446744073709551616 := by unfold Big.B at hx; omega
       have e1 : ((l : Int) * 4294967296 + ((F' j : Nat) : Int)) / 1000000000 = (((l * Big.B + F' j) / 1000000000 : Nat) : Int) := by unfold Big.B; omega
       have e2 : ((l : Int) * 4294967296 + ((F' j : Nat) : Int)) % 1000000000 = (((l * Big.B + F' j) % 1000000000 : Nat) : Int) := by unfold Big.B; omega
       have HST : Hid (Big.V (fun i => F (j + i)) (m - j) / 1000000000 = Big.V (fun i => F (j + 1 + i)) (m - (j + 1)) / 1000000000 * Big.B + (l * Big.B + F' j) / 1000000000 ∧ Big.V (fun i => F (j + i)) (m - j) % 1000000000 = (l * Big.B + F' j) % 1000000000) := ⟨s1, s2⟩
       have HDB : Hid (Dr wr g m F' ∧ Below w.heap.size w wr) := ⟨D2, B2⟩
       have HFT : Hid ((l * Big.B + F' j) / 1000000000 < Big.B) := hfit
       have ij : ((j + 1 : Nat) : Int) - 1 = (j : Int) := by omega
       simp only [Int.natCast_add, Int.natCast_one] at ij
       unfold Big.B at hx
       clear s1 s2 D2 B2 hfit hFj
       generalize (l * Big.B + F' j) / 1000000000 = q at *
       generalize (l * Big.B + F' j) % 1000000000 = r at *
       have hjc : (j : Int) < (m : Int) := by omega
       go_wp2
       go_roundw
       case rel =>
        refine ⟨j, r, Big.put F' j q, by first | rfl | rw [e2], by go_num, by omega, hml, ?_, HDB.out.2.setCell hbg _, fun i hi => ?_, ?_, HST.out.2.symm⟩
        · first | exact HDB.out.1.set j hj HFT.out | (rw [e1]; exact HDB.out.1.set j hj HFT.out)
        · rw [Big.put_ne (by omega)]; exact HV.out.1 i (by omega)
        · rw [V_topB (Big.put F' j q) j m hj, Big.put_at, HST.out.1, ← HV.out.2.1]
          congr 2
          exact Big.V_congr fun i _ => Big.put_ne (by omega)
       case measure => first | (simp [intOf]; done) | (simp [intOf]; omega)
     · obtain rfl : k = 0 := by omega
       have e0 : (fun i => F' (0 + i)) = F' := funext fun i => by rw [Nat.zero_add]
       have e1 : (fun i => F (0 + i)) = F := funext fun i => by rw [Nat.zero_add]
       have hv := HV.out.2
       rw [e0, e1, Nat.sub_zero, HI.out.2.1] at hv
       have T := Big.D.trim_any (D2.sl (by omega) HC.out)
       have HT : Hid (Big.Top F' (Big.tl F' m) ∧ Big.V F' (Big.tl F' m) = gk / 1000000000 ∧ l = gk % 1000000000 ∧ Big.tl F' m ≤ m) := ⟨Big.tl_top F' m, by rw [Big.tl_V]; exact hv.1, hv.2, Big.tl_le F' m⟩
       have HDB : Hid (Dr wr g m F' ∧ Below w.heap.size w wr) := ⟨D2, B2⟩
       clear hv e0 e1 D2 B2 c2
       generalize Big.tl F' m = lq at *
       have hlq : lq ≤ m := HT.out.2.2.2
       have HQ : Hid ((lq = 0 ∧ gk / 1000000000 = 0) ∨ (0 < lq ∧ gk / 1000000000 ≠ 0)) := by
        rcases Nat.eq_zero_or_pos lq with z | z
        · exact Or.inl ⟨z, by rw [← HT.out.2.1, z]; rfl⟩
        · refine Or.inr ⟨z, ?_⟩
          have q := Big.Top_ge HT.out.1 z
          have := Nat.pow_pos (n := lq - 1) Big.B_pos
          have := HT.out.2.1
          omega
       have HZ : Hid (gk / 1000000000 * 10 ^ (9 - 0) + l = X / 10 ^ t.size ∧ l < 10 ^ (9 - 0) ∧ Gx X t) := by
        refine ⟨?_, by rw [show 10 ^ (9 - 0) = 1000000000 from rfl]; exact hl, HI.out.2.2.2⟩
        rw [← HI.out.2.2.1, HT.out.2.2.1, show 10 ^ (9 - 0) = 1000000000 from rfl]
        omega
       have hgl : Hid (gk / 1000000000 < gk) := Nat.div_lt_self (Nat.pos_of_ne_zero HG.out) (by omega)
       obtain ⟨ts, hts⟩ : ∃ ts, ts = t.size := ⟨_, rfl⟩
       have hts2 : ts ≤ 13000 := by omega
       have HTS : Hid (t.size ≤ ts) := (by omega : t.size ≤ ts)
       clear hts
       go_wp2_with fail
       refine T.mono ?_
       rintro e wr ⟨rfl, rfl⟩
       go_wp2
       go_loop [3, 5, 8] (fun sv rv kv => ∃ (t' : ByteArray) (k r : Nat), sv = .string t' ∧ rv = .int .u64 (r : Int) ∧ kv = .int .i64 (k : Int) ∧ k ≤ 9 ∧ r < 1000000000 ∧ t'.size ≤ ts + k ∧ Hid (gk / 1000000000 * 10 ^ (9 - k) + r = X / 10 ^ t'.size ∧ r < 10 ^ (9 - k) ∧ Gx X t')) (fun _ _ kv => 9 - (intOf kv).toNat)
       case atStart => exact ⟨t, 0, l, rfl, rfl, rfl, by omega, hl, HTS.out, HZ.out⟩
       case round =>
        obtain ⟨t', k, r, rfl, rfl, rfl, hk, hr9, hts', HK⟩ := hrel
        by_cases c3 : k < 9
        · have c3' : (k : Int) < 9 := by omega
          by_cases c4 : 0 < r
          · have c4' : (0 : Int) < (r : Int) := by omega
            have m1 : (r : Int) % 10 = ((r % 10 : Nat) : Int) := by omega
            have m2 : (r : Int) / 10 = ((r / 10 : Nat) : Int) := by omega
            have hd : r % 10 < 10 := Nat.mod_lt _ (by omega)
            have hq : r / 10 < 1000000000 := by omega
            obtain ⟨s1, s2, s3⟩ := dec_step c3 HK.out.1 HK.out.2.1 (Or.inl (by omega))
            have HS : Hid (r / 10 < 10 ^ (9 - (k + 1)) ∧ gk / 1000000000 * 10 ^ (9 - (k + 1)) + r / 10 = X / 10 ^ (t'.size + 1) ∧ Gx X (tenB.extract (r % 10) (r % 10 + 1) ++ t')) := ⟨s1, s2, gx_step c3 HK.out.1 HK.out.2.2 s3⟩
            clear s1 s2 s3
            generalize r % 10 = d at *
            generalize r / 10 = rq at *
            have hx := tenB_size hd
            have hb1 : d + 1 ≤ 10 := by omega
            have HN : Hid ((tenB.extract d (d + 1) ++ t').size = t'.size + 1) := by
             show _ = _
             rw [ByteArray.size_append, hx]
             omega
            go_wp2
            go_round
            case rel =>
             refine ⟨tenB.extract d (d + 1) ++ t', k + 1, rq, rfl, rfl, by go_num, by omega, hq, by rw [HN.out]; omega, ?_⟩
             rw [HN.out]
             exact ⟨HS.out.2.1, HS.out.1, HS.out.2.2⟩
            case measure => simp [intOf]; omega
          · have c4' : ¬ (0 : Int) < (r : Int) := by omega
            by_cases c5 : 0 < lq
            · have c5' : (0 : Int) < (lq : Int) := by omega
              have hor : r ≠ 0 ∨ gk / 1000000000 ≠ 0 := by
               rcases HQ.out with ⟨z, _⟩ | ⟨_, z⟩
               · omega
               · exact Or.inr z
              have HOR : Hid (r ≠ 0 ∨ gk / 1000000000 ≠ 0) := hor
              clear hor
              have m1 : (r : Int) % 10 = ((r % 10 : Nat) : Int) := by omega
              have m2 : (r : Int) / 10 = ((r / 10 : Nat) : Int) := by omega
              have hd : r % 10 < 10 := Nat.mod_lt _ (by omega)
              have hq : r / 10 < 1000000000 := by omega
              obtain ⟨s1, s2, s3⟩ := dec_step c3 HK.out.1 HK.out.2.1 HOR.out
              have HS : Hid (r / 10 < 10 ^ (9 - (k + 1)) ∧ gk / 1000000000 * 10 ^ (9 - (k + 1)) + r / 10 = X / 10 ^ (t'.size + 1) ∧ Gx X (tenB.extract (r % 10) (r % 10 + 1) ++ t')) := ⟨s1, s2, gx_step c3 HK.out.1 HK.out.2.2 s3⟩
              clear s1 s2 s3
              generalize r % 10 = d at *
              generalize r / 10 = rq at *
              have hx := tenB_size hd
              have hb1 : d + 1 ≤ 10 := by omega
              have HN : Hid ((tenB.extract d (d + 1) ++ t').size = t'.size + 1) := by
               show _ = _
               rw [ByteArray.size_append, hx]
               omega
              go_wp2
              go_round
              case rel =>
               refine ⟨tenB.extract d (d + 1) ++ t', k + 1, rq, rfl, rfl, by go_num, by omega, hq, by rw [HN.out]; omega, ?_⟩
               rw [HN.out]
               exact ⟨HS.out.2.1, HS.out.1, HS.out.2.2⟩
              case measure => simp [intOf]; omega
            · have c5' : ¬ (0 : Int) < (lq : Int) := by omega
              have hz : gk / 1000000000 = 0 := by
               rcases HQ.out with ⟨_, z⟩ | ⟨z, _⟩
               · exact z
               · omega
              have HZ0 : Hid (gk / 1000000000 = 0) := hz
              clear hz
              have HE : Hid (gk / 1000000000 = X / 10 ^ t'.size ∧ t'.size ≤ 13000) := by
               have a := HK.out.1
               have b := HK.out.2.1
               have c := HK.out.2.2
               refine ⟨by rw [← a, HZ0.out, Nat.zero_mul]; omega, ?_⟩
               rcases Nat.eq_zero_or_pos t'.size with z | z
               · omega
               · have := dec_size HX.out.2.1 (c.1 z)
                 omega
              go_wp2
              go_roundg (gk / 1000000000)
              case measure => exact hgl.out
              case rel => exact ⟨lq, t', F', rfl, rfl, by omega, HDB.out.1.less hlq, HE.out.2, HDB.out.2, HT.out.1, HT.out.2.1, HE.out.1, HK.out.2.2⟩
        · have c3' : ¬ (k : Int) < 9 := by omega
          have HE : Hid (gk / 1000000000 = X / 10 ^ t'.size ∧ t'.size ≤ 13000) := by
           have a := HK.out.1
           have b := HK.out.2.1
           have c := HK.out.2.2
           refine ⟨by rw [show k = 9 by omega] at a b; simp only [Nat.sub_self, Nat.pow_zero, Nat.mul_one] at a b; omega, ?_⟩
           rcases Nat.eq_zero_or_pos t'.size with z | z
           · omega
           · have := dec_size HX.out.2.1 (c.1 z)
             omega
          go_wp2
          go_roundg (gk / 1000000000)
          case measure => exact hgl.out
          case rel => exact ⟨lq, t', F', rfl, rfl, by omega, HDB.out.1.less hlq, HE.out.2, HDB.out.2, HT.out.1, HT.out.2.1, HE.out.1, HK.out.2.2⟩
  · obtain rfl : m = 0 := by omega
    have hg : gk = 0 := by rw [← HI.out.2.1]; rfl
    have HD : Hid (Tx X t) := by
     obtain ⟨_, _, a, c⟩ := HI.out
     rw [hg] at a
     have lt : X < 10 ^ t.size := (Nat.div_eq_zero_iff_lt (Nat.pow_pos (by omega))).1 a.symm
     exact ⟨lt, c.1, c.2.1, by rw [c.2.2, Nat.mod_eq_of_lt lt]⟩
    have ht0 : t.size ≠ 0 := by
     intro z
     have a := HD.out.1
     rw [z, Nat.pow_zero] at a
     have := HX.out.1
     omega
    have HB : Hid (Below w.heap.size w wr) := B1
    have hl := list_some ht0
    clear D1 B1 hg HI c1 ht0
    go_wp2
    go_ret
    exact ⟨t, rfl, HD.out, HB.out⟩
end Go.Proofs.YtjagnfddmlkalaaGreatDoor
