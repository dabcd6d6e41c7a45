/-
  What the document's Decimal of layer 13 answers: a text of as many digits as the number has.
-/
import Derived.Test.YtlbbilldehlheaaDoorPwP
namespace Go.Proofs.YtlbbilldehlheaaDoor
open Go.RowKit

theorem by_stepB {T x d : Nat} (hd : 0 < d) : (T * Big.B + x) / d = T / d * Big.B + (T % d * Big.B + x) / d ∧ (T * Big.B + x) % d = (T % d * Big.B + x) % d := by
  have e : T * Big.B + x = d * (T / d * Big.B) + (T % d * Big.B + x) := by
    have q := Nat.div_add_mod T d
    have r : T * Big.B = d * (T / d * Big.B) + T % d * Big.B := by
      rw [← Nat.mul_assoc, ← Nat.add_mul, q]
    omega
  rw [e, Nat.mul_add_div hd, Nat.mul_add_mod]
  exact ⟨rfl, rfl⟩
theorem V_topB (f : Nat → Nat) (k n : Nat) (h : k < n) : Big.V (fun i => f (k + i)) (n - k) = Big.V (fun i => f (k + 1 + i)) (n - (k + 1)) * Big.B + f k := by
  obtain ⟨m, e⟩ : ∃ m, n - k = 1 + m := ⟨n - k - 1, by omega⟩
  have s := Big.V_split (fun i => f (k + i)) 1 m
  rw [e, s, show n - (k + 1) = m by omega, Nat.pow_one, Big.V_succ, Big.V_zero, Nat.pow_zero, Nat.mul_one, Nat.zero_add, Nat.add_zero, Nat.add_comm]
  congr 2
  exact Big.V_congr fun i _ => by show f (k + (1 + i)) = f (k + 1 + i); rw [Nat.add_assoc]
theorem by_fits {T x d : Nat} (hT : T < d) (hx : x < Big.B) : (T * Big.B + x) / d < Big.B := by
  rw [Nat.div_lt_iff_lt_mul (by omega), Nat.mul_comm Big.B d]
  have := Nat.mul_le_mul_right Big.B (Nat.succ_le_of_lt hT)
  rw [Nat.succ_mul] at this
  omega

theorem toListData (s : ByteArray) : s.toList = s.data.toList := by
  have go : ∀ (n i : Nat) (r : List UInt8), n = s.size - i → ByteArray.toList.loop s i r = r.reverse ++ s.data.toList.drop i := by
    intro n
    induction n with
    | zero =>
      intro i r h
      rw [ByteArray.toList.loop, if_neg (by omega), List.drop_eq_nil_of_le (by simpa using (show s.size ≤ i by omega))]
      simp
    | succ n ih =>
      intro i r h
      have hi : i < s.size := by omega
      have hl : i < s.data.toList.length := by simpa using hi
      rw [ByteArray.toList.loop, if_pos hi, ih (i + 1) _ (by omega), List.drop_eq_getElem_cons hl, List.reverse_cons, List.append_assoc]
      congr 1
      simp only [List.singleton_append, List.cons.injEq, and_true]
      simp [ByteArray.get!, hi]
  show ByteArray.toList.loop s 0 [] = _
  simpa using go s.size 0 [] (by omega)
theorem list_some {t : ByteArray} (h : t.size ≠ 0) : t.toList.isEmpty = false := by
  rw [toListData]
  have l : t.data.toList.length = t.size := by rw [Array.length_toList]; rfl
  cases e : t.data.toList with
  | nil => rw [e] at l; exact absurd l.symm h
  | cons a b => rfl

/-- Digits in a block of the call's own, which may be written. -/
structure Dr (w : World) (g n : Nat) (F : Nat → Nat) : Prop where
  lt : g < w.heap.size
  cell : ∀ i, i < n → w.cell? ⟨g, i, none⟩ = some (.int .u64 (F i : Int))
  fz : ∀ i, w.frozen? ⟨g, i, none⟩ = false
  ws : Big.Ws F
theorem Dr.set {w : World} {g n : Nat} {F : Nat → Nat} (h : Dr w g n F) (i : Nat) (hi : i < n) {r : Nat} (hr : r < Big.B) : Dr (w.setCell ⟨g, i, none⟩ (.int .u64 (r : Int))) g n (Big.put F i r) := by
  refine ⟨by simpa using h.lt, fun j hj => ?_, fun j => (World.frozen?_setCell ..).trans (h.fz j), Big.put_Ws h.ws hr⟩
  by_cases c : j = i
  · subst c
    rw [Big.put_at]
    exact World.cell?_setCell_same _ _ _ (h.cell j hi)
  · rw [Big.put_ne c]
    exact (World.cell?_setCell_other _ ⟨g, i, none⟩ ⟨g, j, none⟩ _ (by intro e; cases e; exact c rfl)).trans (h.cell j hj)
theorem Dr.less {w : World} {g n m : Nat} {F : Nat → Nat} (h : Dr w g n F) (hm : m ≤ n) : Dr w g m F := ⟨h.lt, fun i hi => h.cell i (by omega), h.fz, h.ws⟩
theorem Dr.sl {w : World} {g n c : Nat} {F : Nat → Nat} (h : Dr w g n F) (h1 : n ≤ c) (h2 : c ≤ maxLen) : Big.D.Sl w (some ⟨g, 0, none⟩) n c g 0 F :=
  ⟨h1, h2, fun _ => rfl, fun _ => h.lt, fun i hi => by rw [Nat.zero_add]; exact h.cell i hi, h.ws⟩
theorem own_dr {w : World} {base : Nat} {v : Value} {n : Nat} {F : Nat → Nat} (h : w.ownsRow base 22 1 v n (dV .u64 F n)) (hF : Big.Ws F) (h0 : 0 < n) :
    ∃ g c, v = .slice (some ⟨g, 0, none⟩) n c ∧ n ≤ c ∧ c ≤ maxLen ∧ base ≤ g ∧ Dr w g n F := by
  have q := own_cells h
  rcases h.2 with ⟨rfl, rfl⟩ | ⟨g, cap, cur, rfl, hbg, hheap, hle, hmx, hcs, htk⟩
  · omega
  · obtain ⟨ao, c, b, e, h1, h2, h3, h4⟩ := q
    obtain ⟨ea, _, _⟩ := h3 h0
    cases e
    cases ea
    refine ⟨g, cap, rfl, hle, hmx, hbg, (Array.getElem?_eq_some_iff.1 hheap).1, fun i hi => ?_, fun i => ?_, hF⟩
    · have := h4 i hi
      rw [Nat.zero_add] at this
      exact this
    · simp [World.frozen?, hheap]

/-- One digit more: what is left, and how long the number is. -/
theorem dec_step {X Y k r z : Nat} (hk : k < 9) (h : Y * 10 ^ (9 - k) + r = X / 10 ^ z) (hr : r < 10 ^ (9 - k)) (h0 : r ≠ 0 ∨ Y ≠ 0) :
    r / 10 < 10 ^ (9 - (k + 1)) ∧ Y * 10 ^ (9 - (k + 1)) + r / 10 = X / 10 ^ (z + 1) ∧ 10 ^ z ≤ X := by
  have e : 10 ^ (9 - k) = 10 ^ (9 - (k + 1)) * 10 := by rw [← Nat.pow_succ]; congr 1; omega
  rw [e] at h hr
  have pz : 0 < 10 ^ z := Nat.pow_pos (by omega)
  refine ⟨by omega, ?_, ?_⟩
  · rw [Nat.pow_succ, ← Nat.div_div_eq_div_mul, ← h, ← Nat.mul_assoc]
    omega
  · apply Nat.le_of_not_lt
    intro c
    rw [Nat.div_eq_of_lt c] at h
    have pk : 0 < 10 ^ (9 - (k + 1)) := Nat.pow_pos (by omega)
    rcases h0 with q | q
    · omega
    · have := Nat.mul_pos (Nat.pos_of_ne_zero q) (Nat.mul_pos pk (show 0 < 10 by omega))
      omega
theorem dec_sizeL {L X z : Nat} (hX : Fits L X) (h : 10 ^ z ≤ X) : z < 32 * L := by
  have a := hX.lt
  rw [D_pow] at a
  have b : 2 ^ z ≤ 10 ^ z := Nat.pow_le_pow_left (by omega) z
  have c : 2 ^ z < 2 ^ (32 * L) := by omega
  exact (Nat.pow_lt_pow_iff_right (by omega)).1 c
theorem dec_size {X z : Nat} (hX : Fits 400 X) (h : 10 ^ z ≤ X) : z < 12800 := dec_sizeL hX h
def tenB : ByteArray := ⟨#[48, 49, 50, 51, 52, 53, 54, 55, 56, 57]⟩
theorem tenB_size {r : Nat} (h : r < 10) : (tenB.extract r (r + 1)).size = 1 := by
  rw [ByteArray.size_extract]
  have : tenB.size = 10 := rfl
  omega

set_option maxRecDepth 100000 in
set_option maxHeartbeats 4000000 in
theorem decimal_len {w : World} {va : Value} {X : Nat} (ha : Big.D.NatV w va X) (h0 : X ≠ 0) (hX : Fits 400 X) :
    Calls Tryd.prog 30 #[va] w fun e w' => ∃ t : ByteArray, e = .returned (.string t) ∧ Dl X t.size ∧ t.size < 13000 ∧ Below w.heap.size w w' := by
  obtain ⟨ao, n, c, b, o, f, rfl, S, tp, hv⟩ := ha
  have hn := big_len tp (by rw [hv]; exact hX)
  have n0 : 0 < n := by
    rcases Nat.eq_zero_or_pos n with z | z
    · subst z; exact absurd hv.symm h0
    · exact z
  obtain rfl := S.addr n0
  obtain ⟨i0, hi, hz0, hz1, hz2⟩ := info_parts Big.D.info_u64
  have hnews : ∀ j u, (dV .u64 f n)[j]? = some u → w.cell? ((⟨b, o, none⟩ : Addr).add j) = some u := fun j u hu => by
    by_cases hj : j < n
    · rw [dV_get hj] at hu
      rw [← Option.some.inj hu]
      have q := S.cell j hj
      by_cases z : j = 0
      · subst z; simpa [Addr.add] using q
      · simpa [Addr.add, z] using q
    · rw [List.getElem?_eq_none (by unfold dV; simp; omega)] at hu
      cases hu
  have hone : ∀ u ∈ dV .u64 f n, u.oneCell' = true := fun u hu => by
    unfold dV at hu
    obtain ⟨i, _, rfl⟩ := List.mem_map.1 hu
    rfl
  have HX : Hid (X ≠ 0 ∧ Fits 400 X ∧ Big.Top f n ∧ Big.V f n = X ∧ Big.Ws f) := ⟨h0, hX, tp, hv, S.ws⟩
  have HW : Hid (∀ j u, (dV .u64 f n)[j]? = some u → w.cell? ((⟨b, o, none⟩ : Addr).add j) = some u) := hnews
  have HO : Hid (∀ u ∈ dV .u64 f n, u.oneCell' = true) := hone
  have hlen : Hid ((dV .u64 f n).length = n * 1) := by show _ = _; unfold dV; simp
  clear S tp hv h0 hX hnews hone
  go_enter Tryd.func30, Tryd.ntmps30
  go_wp2_with (first
    | (at_builtin; refine wpList_append_own _ rfl _ _ 55 rfl w.heap.size 22 i0 (.int .u64 0) 1 8 Big.D.und_big13 hi hz0 hz1 hz2 rfl (by decide) _ 0 [] rfl (World.ownsRow_nil _ _ _ _) ⟨b, o, none⟩ n c (dV .u64 f n) rfl hlen.out HW.out HO.out (by unfold maxLen; omega) (by omega) (Nat.le_refl _) ?_)
    | go_in)
  intro v1 w1 hown hgrow hnil
  obtain ⟨g, cap, rfl, hc1, hc2, hbg, D1⟩ := own_dr hown HX.out.2.2.2.2 n0
  have B1 : Below w.heap.size w w1 := (Below.refl _ _).grown hgrow (Nat.le_refl _) (fun q hq => by cases hq)
  clear hown hgrow hnil HW HO hlen
  have HC : Hid (cap ≤ maxLen) := hc2
  unfold maxLen at hc2
  go_wp2
  go_loopg [3, 4, 5, 6, 7, 8] X (fun gk sv bv _ _ _ _ wr => ∃ (m : Nat) (t : ByteArray) (F : Nat → Nat), sv = .string t ∧ bv = .slice (some ⟨g, 0, none⟩) m cap ∧ m ≤ n ∧ Dr wr g m F ∧ t.size ≤ 13000 ∧ Below w.heap.size w wr ∧ Hid (Big.Top F m ∧ Big.V F m = gk ∧ gk = X / 10 ^ t.size ∧ (0 < t.size → 10 ^ (t.size - 1) ≤ X)))
  case atStart => exact ⟨n, ⟨#[]⟩, f, rfl, rfl, Nat.le_refl _, D1, by show 0 ≤ 13000; omega, B1, HX.out.2.2.1, HX.out.2.2.2.1, by show X = X / 10 ^ 0; rw [Nat.pow_zero, Nat.div_one], fun h => absurd h (by show ¬ 0 < 0; omega)⟩
  case round =>
    clear D1 B1
    obtain ⟨m, t, F, rfl, rfl, hm, D1, ht, B1, HI⟩ := hrel
    have hsz := B1.size
    by_cases c1 : 0 < m
    · have hg0 : gk ≠ 0 := by
        have q := Big.Top_ge HI.out.1 c1
        have := Nat.pow_pos (n := m - 1) Big.B_pos
        have := HI.out.2.1
        omega
      have HG : Hid (gk ≠ 0) := hg0
      have HDB : Hid (Dr wr g m F ∧ Below w.heap.size w wr) := ⟨D1, B1⟩
      have c1' : (0 : Int) < (m : Int) := by omega
      clear hg0 D1 B1
      go_wp2
      go_loopw [5, 6, 7] (fun rv iv _ w2 => ∃ (k l : Nat) (F' : Nat → Nat), rv = .int .u64 (l : Int) ∧ iv = .int .i64 ((k : Int) - 1) ∧ k ≤ m ∧ l < 1000000000 ∧ Dr w2 g m F' ∧ Below w.heap.size w w2 ∧ Hid ((∀ j, j < k → F' j = F j) ∧ Big.V (fun i => F' (k + i)) (m - k) = Big.V (fun i => F (k + i)) (m - k) / 1000000000 ∧ l = Big.V (fun i => F (k + i)) (m - k) % 1000000000)) (fun _ iv _ _ => (intOf iv + 1).toNat)
      case atStart => exact ⟨m, 0, F, rfl, rfl, Nat.le_refl _, by omega, HDB.out.1, HDB.out.2, fun _ _ => rfl, by rw [Nat.sub_self, Big.V_zero, Nat.zero_div], by rw [Nat.sub_self, Big.V_zero, Nat.zero_mod]⟩
      case round =>
        clear HDB
        obtain ⟨k, l, F', rfl, rfl, hk, hl, D2, B2, HV⟩ := hrel
        by_cases c2 : 0 < k
        · obtain ⟨j, rfl⟩ : ∃ j, k = j + 1 := ⟨k - 1, by omega⟩
          have hj : j < m := by omega
          have cz := D2.cell j hj
          have fz := D2.fz j
          have hx := D2.ws j
          have hfit := by_fits (d := 1000000000) hl hx
          obtain ⟨s1, s2⟩ := by_stepB (T := Big.V (fun i => F (j + 1 + i)) (m - (j + 1))) (x := F j) (d := 1000000000) (by omega)
          have hFj : F' j = F j := HV.out.1 j (by omega)
          rw [← HV.out.2.2, ← V_topB F j m hj, ← hFj] at s1 s2
          have hml : (l * Big.B + F' j) % 1000000000 < 1000000000 := Nat.mod_lt _ (by omega)
          have htot : l * 4294967296 + F' j < 18446744073709551616 := by unfold Big.B at hx; omega
          have e1 : ((l : Int) * 4294967296 + ((F' j : Nat) : Int)) / 1000000000 = (((l * Big.B + F' j) / 1000000000 : Nat) : Int) := by unfold Big.B; omega
          have e2 : ((l : Int) * 4294967296 + ((F' j : Nat) : Int)) % 1000000000 = (((l * Big.B + F' j) % 1000000000 : Nat) : Int) := by unfold Big.B; omega
          have HST : Hid (Big.V (fun i => F (j + i)) (m - j) / 1000000000 = Big.V (fun i => F (j + 1 + i)) (m - (j + 1)) / 1000000000 * Big.B + (l * Big.B + F' j) / 1000000000 ∧ Big.V (fun i => F (j + i)) (m - j) % 1000000000 = (l * Big.B + F' j) % 1000000000) := ⟨s1, s2⟩
          have HDB : Hid (Dr wr g m F' ∧ Below w.heap.size w wr) := ⟨D2, B2⟩
          have HFT : Hid ((l * Big.B + F' j) / 1000000000 < Big.B) := hfit
          have ij : ((j + 1 : Nat) : Int) - 1 = (j : Int) := by omega
          simp only [Int.natCast_add, Int.natCast_one] at ij
          unfold Big.B at hx
          clear s1 s2 D2 B2 hfit hFj
          generalize (l * Big.B + F' j) / 1000000000 = q at *
          generalize (l * Big.B + F' j) % 1000000000 = r at *
          have hjc : (j : Int) < (m : Int) := by omega
          go_wp2
          go_roundw
          case rel =>
            refine ⟨j, r, Big.put F' j q, by first | rfl | rw [e2], by go_num, by omega, hml, ?_, HDB.out.2.setCell hbg _, fun i hi => ?_, ?_, HST.out.2.symm⟩
            · first | exact HDB.out.1.set j hj HFT.out | (rw [e1]; exact HDB.out.1.set j hj HFT.out)
            · rw [Big.put_ne (by omega)]; exact HV.out.1 i (by omega)
            · rw [V_topB (Big.put F' j q) j m hj, Big.put_at, HST.out.1, ← HV.out.2.1]
              congr 2
              exact Big.V_congr fun i _ => Big.put_ne (by omega)
          case measure => first | (simp [intOf]; done) | (simp [intOf]; omega)
        · obtain rfl : k = 0 := by omega
          have e0 : (fun i => F' (0 + i)) = F' := funext fun i => by rw [Nat.zero_add]
          have e1 : (fun i => F (0 + i)) = F := funext fun i => by rw [Nat.zero_add]
          have hv := HV.out.2
          rw [e0, e1, Nat.sub_zero, HI.out.2.1] at hv
          have T := Big.D.trim_any (D2.sl (by omega) HC.out)
          have HT : Hid (Big.Top F' (Big.tl F' m) ∧ Big.V F' (Big.tl F' m) = gk / 1000000000 ∧ l = gk % 1000000000 ∧ Big.tl F' m ≤ m) := ⟨Big.tl_top F' m, by rw [Big.tl_V]; exact hv.1, hv.2, Big.tl_le F' m⟩
          have HDB : Hid (Dr wr g m F' ∧ Below w.heap.size w wr) := ⟨D2, B2⟩
          clear hv e0 e1 D2 B2 c2
          generalize Big.tl F' m = lq at *
          have hlq : lq ≤ m := HT.out.2.2.2
          have HQ : Hid ((lq = 0 ∧ gk / 1000000000 = 0) ∨ (0 < lq ∧ gk / 1000000000 ≠ 0)) := by
            rcases Nat.eq_zero_or_pos lq with z | z
            · exact Or.inl ⟨z, by rw [← HT.out.2.1, z]; rfl⟩
            · refine Or.inr ⟨z, ?_⟩
              have q := Big.Top_ge HT.out.1 z
              have := Nat.pow_pos (n := lq - 1) Big.B_pos
              have := HT.out.2.1
              omega
          have HZ : Hid (gk / 1000000000 * 10 ^ (9 - 0) + l = X / 10 ^ t.size ∧ l < 10 ^ (9 - 0) ∧ (0 < t.size → 10 ^ (t.size - 1) ≤ X)) := by
            refine ⟨?_, by rw [show 10 ^ (9 - 0) = 1000000000 from rfl]; exact hl, HI.out.2.2.2⟩
            rw [← HI.out.2.2.1, HT.out.2.2.1, show 10 ^ (9 - 0) = 1000000000 from rfl]
            omega
          have hgl : Hid (gk / 1000000000 < gk) := Nat.div_lt_self (Nat.pos_of_ne_zero HG.out) (by omega)
          obtain ⟨ts, hts⟩ : ∃ ts, ts = t.size := ⟨_, rfl⟩
          have hts2 : ts ≤ 13000 := by omega
          have HTS : Hid (t.size ≤ ts) := (by omega : t.size ≤ ts)
          clear hts
          go_wp2_with fail
          refine T.mono ?_
          rintro e wr ⟨rfl, rfl⟩
          go_wp2
          go_loop [3, 5, 8] (fun sv rv kv => ∃ (t' : ByteArray) (k r : Nat), sv = .string t' ∧ rv = .int .u64 (r : Int) ∧ kv = .int .i64 (k : Int) ∧ k ≤ 9 ∧ r < 1000000000 ∧ t'.size ≤ ts + k ∧ Hid (gk / 1000000000 * 10 ^ (9 - k) + r = X / 10 ^ t'.size ∧ r < 10 ^ (9 - k) ∧ (0 < t'.size → 10 ^ (t'.size - 1) ≤ X))) (fun _ _ kv => 9 - (intOf kv).toNat)
          case atStart => exact ⟨t, 0, l, rfl, rfl, rfl, by omega, hl, HTS.out, HZ.out⟩
          case round =>
            obtain ⟨t', k, r, rfl, rfl, rfl, hk, hr9, hts', HK⟩ := hrel
            by_cases c3 : k < 9
            · have c3' : (k : Int) < 9 := by omega
              by_cases c4 : 0 < r
              · have c4' : (0 : Int) < (r : Int) := by omega
                have m1 : (r : Int) % 10 = ((r % 10 : Nat) : Int) := by omega
                have m2 : (r : Int) / 10 = ((r / 10 : Nat) : Int) := by omega
                have hd : r % 10 < 10 := Nat.mod_lt _ (by omega)
                have hq : r / 10 < 1000000000 := by omega
                obtain ⟨s1, s2, s3⟩ := dec_step c3 HK.out.1 HK.out.2.1 (Or.inl (by omega))
                have HS : Hid (r / 10 < 10 ^ (9 - (k + 1)) ∧ gk / 1000000000 * 10 ^ (9 - (k + 1)) + r / 10 = X / 10 ^ (t'.size + 1) ∧ 10 ^ t'.size ≤ X) := ⟨s1, s2, s3⟩
                clear s1 s2 s3
                generalize r % 10 = d at *
                generalize r / 10 = rq at *
                have hx := tenB_size hd
                have hb1 : d + 1 ≤ 10 := by omega
                have HN : Hid ((tenB.extract d (d + 1) ++ t').size = t'.size + 1) := by
                  show _ = _
                  rw [ByteArray.size_append, hx]
                  omega
                go_wp2
                go_round
                case rel =>
                  refine ⟨tenB.extract d (d + 1) ++ t', k + 1, rq, rfl, rfl, by go_num, by omega, hq, by rw [HN.out]; omega, ?_⟩
                  rw [HN.out]
                  exact ⟨HS.out.2.1, HS.out.1, fun _ => by rw [Nat.add_sub_cancel]; exact HS.out.2.2⟩
                case measure => simp [intOf]; omega
              · have c4' : ¬ (0 : Int) < (r : Int) := by omega
                by_cases c5 : 0 < lq
                · have c5' : (0 : Int) < (lq : Int) := by omega
                  have hor : r ≠ 0 ∨ gk / 1000000000 ≠ 0 := by
                    rcases HQ.out with ⟨z, _⟩ | ⟨_, z⟩
                    · omega
                    · exact Or.inr z
                  have HOR : Hid (r ≠ 0 ∨ gk / 1000000000 ≠ 0) := hor
                  clear hor
                  have m1 : (r : Int) % 10 = ((r % 10 : Nat) : Int) := by omega
                  have m2 : (r : Int) / 10 = ((r / 10 : Nat) : Int) := by omega
                  have hd : r % 10 < 10 := Nat.mod_lt _ (by omega)
                  have hq : r / 10 < 1000000000 := by omega
                  obtain ⟨s1, s2, s3⟩ := dec_step c3 HK.out.1 HK.out.2.1 HOR.out
                  have HS : Hid (r / 10 < 10 ^ (9 - (k + 1)) ∧ gk / 1000000000 * 10 ^ (9 - (k + 1)) + r / 10 = X / 10 ^ (t'.size + 1) ∧ 10 ^ t'.size ≤ X) := ⟨s1, s2, s3⟩
                  clear s1 s2 s3
                  generalize r % 10 = d at *
                  generalize r / 10 = rq at *
                  have hx := tenB_size hd
                  have hb1 : d + 1 ≤ 10 := by omega
                  have HN : Hid ((tenB.extract d (d + 1) ++ t').size = t'.size + 1) := by
                    show _ = _
                    rw [ByteArray.size_append, hx]
                    omega
                  go_wp2
                  go_round
                  case rel =>
                    refine ⟨tenB.extract d (d + 1) ++ t', k + 1, rq, rfl, rfl, by go_num, by omega, hq, by rw [HN.out]; omega, ?_⟩
                    rw [HN.out]
                    exact ⟨HS.out.2.1, HS.out.1, fun _ => by rw [Nat.add_sub_cancel]; exact HS.out.2.2⟩
                  case measure => simp [intOf]; omega
                · have c5' : ¬ (0 : Int) < (lq : Int) := by omega
                  have hz : gk / 1000000000 = 0 := by
                    rcases HQ.out with ⟨_, z⟩ | ⟨z, _⟩
                    · exact z
                    · omega
                  have HZ0 : Hid (gk / 1000000000 = 0) := hz
                  clear hz
                  have HE : Hid (gk / 1000000000 = X / 10 ^ t'.size ∧ t'.size ≤ 13000) := by
                    have a := HK.out.1
                    have b := HK.out.2.1
                    have c := HK.out.2.2
                    refine ⟨by rw [← a, HZ0.out, Nat.zero_mul]; omega, ?_⟩
                    rcases Nat.eq_zero_or_pos t'.size with z | z
                    · omega
                    · have := dec_size HX.out.2.1 (c z)
                      omega
                  go_wp2
                  go_roundg (gk / 1000000000)
                  case measure => exact hgl.out
                  case rel => exact ⟨lq, t', F', rfl, rfl, by omega, HDB.out.1.less hlq, HE.out.2, HDB.out.2, HT.out.1, HT.out.2.1, HE.out.1, HK.out.2.2⟩
            · have c3' : ¬ (k : Int) < 9 := by omega
              have HE : Hid (gk / 1000000000 = X / 10 ^ t'.size ∧ t'.size ≤ 13000) := by
                have a := HK.out.1
                have b := HK.out.2.1
                have c := HK.out.2.2
                refine ⟨by rw [show k = 9 by omega] at a b; simp only [Nat.sub_self, Nat.pow_zero, Nat.mul_one] at a b; omega, ?_⟩
                rcases Nat.eq_zero_or_pos t'.size with z | z
                · omega
                · have := dec_size HX.out.2.1 (c z)
                  omega
              go_wp2
              go_roundg (gk / 1000000000)
              case measure => exact hgl.out
              case rel => exact ⟨lq, t', F', rfl, rfl, by omega, HDB.out.1.less hlq, HE.out.2, HDB.out.2, HT.out.1, HT.out.2.1, HE.out.1, HK.out.2.2⟩
    · obtain rfl : m = 0 := by omega
      have hg : gk = 0 := by rw [← HI.out.2.1]; rfl
      have HD : Hid (Dl X t.size ∧ t.size < 13000) := by
        obtain ⟨_, _, a, c⟩ := HI.out
        rw [hg] at a
        have lt : X < 10 ^ t.size := (Nat.div_eq_zero_iff_lt (Nat.pow_pos (by omega))).1 a.symm
        refine ⟨⟨lt, c⟩, ?_⟩
        rcases Nat.eq_zero_or_pos t.size with z | z
        · omega
        · have := dec_size HX.out.2.1 (c z)
          omega
      have ht0 : t.size ≠ 0 := by
        intro z
        have a := HD.out.1.1
        rw [z, Nat.pow_zero] at a
        have := HX.out.1
        omega
      have HB : Hid (Below w.heap.size w wr) := B1
      have hl := list_some ht0
      clear D1 B1 hg HI c1 ht0
      go_wp2
      go_ret
      exact ⟨t, rfl, HD.out.1, HD.out.2, HB.out⟩

end Go.Proofs.YtlbbilldehlheaaDoor
