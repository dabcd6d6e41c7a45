/-
  Holds: VMath VNatM VBtM VBigM VBigP.
-/
import Derived.Test.YtohhmobfmmeohaaGreatDoorKi0
set_option maxRecDepth 100000
set_option maxHeartbeats 4000000
namespace Go.Proofs.YtohhmobfmmeohaaGreatDoor
def Word (x : Int) : Prop := 0 ≤ x ∧ x < 18446744073709551616
def a3Lo (x y c : Int) : Int := (x + y + c) % 18446744073709551616
def a3C (x y c : Int) : Int := (x + y + c) / 18446744073709551616
def mHi (x y : Int) : Int := x * y / 18446744073709551616
def mLo (x y : Int) : Int := x * y % 18446744073709551616
def B : Nat := 18446744073709551616
theorem B_pos : 0 < B := by decide
theorem Bp_pos (n : Nat) : 0 < B ^ n := Nat.pow_pos B_pos
def V (f : Nat → Nat) : Nat → Nat
 | 0 => 0
 | n + 1 => V f n + f n * B ^ n
def Ws (f : Nat → Nat) : Prop := ∀ i, f i < B
theorem V_zero (f : Nat → Nat) : V f 0 = 0 := rfl
theorem V_succ (f : Nat → Nat) (n : Nat) : V f (n + 1) = V f n + f n * B ^ n := rfl
theorem V_congr {f g : Nat → Nat} : ∀ {n : Nat}, (∀ i, i < n → f i = g i) → V f n = V g n
 | 0, _ => rfl
 | n + 1, h => by rw [V_succ, V_succ, V_congr (fun i hi => h i (by omega)), h n (by omega)]
theorem V_lt {f : Nat → Nat} (hf : Ws f) : ∀ n, V f n < B ^ n
  | 0 => by rw [V_zero, Nat.pow_zero]; decide
  | n + 1 => by
    have a := V_lt hf n
    have b := hf n
    have c : (f n + 1) * B ^ n ≤ B * B ^ n := Nat.mul_le_mul_right _ b
    rw [V_succ, Nat.pow_succ]
    rw [Nat.add_mul, Nat.one_mul] at c
    rw [Nat.mul_comm (B ^ n) B]
    omega
theorem V_ge {f : Nat → Nat} {n : Nat} (h : f n ≠ 0) : B ^ n ≤ V f (n + 1) := by
 have a : 1 * B ^ n ≤ f n * B ^ n := Nat.mul_le_mul_right _ (by omega)
 rw [V_succ]; omega
theorem split_gen {u v x p q : Nat} : u + v * p + x * (p * q) = u + (v + x * q) * p := by grind
theorem V_split (f : Nat → Nat) (a : Nat) : ∀ b, V f (a + b) = V f a + V (fun i => f (a + i)) b * B ^ a
  | 0 => by rw [V_zero, Nat.zero_mul]; rfl
  | b + 1 => by
    have e := V_split f a b
    rw [← Nat.add_assoc, V_succ, e, V_succ, Nat.pow_add]
    exact split_gen
theorem V_zeros {f : Nat → Nat} {m : Nat} : ∀ {n : Nat}, m ≤ n → (∀ i, m ≤ i → i < n → f i = 0) → V f n = V f m
  | 0, h, _ => by
    have e : m = 0 := by omega
    rw [e]
  | n + 1, h, z => by
    by_cases e : m = n + 1
    · rw [e]
    · rw [V_succ, z n (by omega) (by omega), Nat.zero_mul, Nat.add_zero]
      exact V_zeros (by omega) (fun i a b => z i a (by omega))
theorem V_nought (n : Nat) : V (fun _ => 0) n = 0 := V_zeros (f := fun _ => 0) (Nat.zero_le n) (fun _ _ _ => rfl)
def Top (f : Nat → Nat) (n : Nat) : Prop := n = 0 ∨ f (n - 1) ≠ 0
theorem Top_ge {f : Nat → Nat} {n : Nat} (h : Top f n) (hn : 0 < n) : B ^ (n - 1) ≤ V f n := by
 rcases h with h | h
 · omega
 · have := V_ge h
   rw [show n - 1 + 1 = n by omega] at this
   exact this
theorem len_le {f : Nat → Nat} {n k : Nat} (t : Top f n) (h : V f n < B ^ k) : n ≤ k := by
 by_cases c : n ≤ k
 · exact c
 · exfalso
   have a := Top_ge t (by omega)
   have b : B ^ k ≤ B ^ (n - 1) := Nat.pow_le_pow_right B_pos (by omega)
   omega
def tl (f : Nat → Nat) : Nat → Nat
 | 0 => 0
 | n + 1 => if f n = 0 then tl f n else n + 1
theorem tl_le (f : Nat → Nat) : ∀ n, tl f n ≤ n
  | 0 => Nat.le_refl _
  | n + 1 => by
    unfold tl
    split
    · have := tl_le f n; omega
    · exact Nat.le_refl _
theorem tl_top (f : Nat → Nat) : ∀ n, Top f (tl f n)
  | 0 => Or.inl rfl
  | n + 1 => by
    unfold tl
    split
    · exact tl_top f n
    · exact Or.inr (by simpa using ‹_›)
theorem tl_V (f : Nat → Nat) : ∀ n, V f (tl f n) = V f n
  | 0 => rfl
  | n + 1 => by
    unfold tl
    split
    · rename_i h; rw [tl_V f n, V_succ, h, Nat.zero_mul, Nat.add_zero]
    · rfl
theorem tl_zero {f : Nat → Nat} {n : Nat} (h : f n = 0) : tl f (n + 1) = tl f n := by
 show (if f n = 0 then tl f n else n + 1) = _
 rw [if_pos h]
theorem tl_stop {f : Nat → Nat} {n : Nat} (h : f n ≠ 0) : tl f (n + 1) = n + 1 := by
 show (if f n = 0 then tl f n else n + 1) = _
 rw [if_neg h]
def ord (x y : Nat) : Int := if x < y then -1 else if y < x then 1 else 0
theorem ord_lt {x y : Nat} (h : x < y) : ord x y = -1 := by unfold ord; rw [if_pos h]
theorem ord_gt {x y : Nat} (h : y < x) : ord x y = 1 := by unfold ord; rw [if_neg (by omega), if_pos h]
theorem ord_eq {x y : Nat} (h : x = y) : ord x y = 0 := by unfold ord; rw [if_neg (by omega), if_neg (by omega)]
def put (f : Nat → Nat) (k x : Nat) : Nat → Nat := fun i => if i = k then x else f i
theorem put_at (f : Nat → Nat) (k x : Nat) : put f k x k = x := by unfold put; rw [if_pos rfl]
theorem put_ne {f : Nat → Nat} {k x i : Nat} (h : i ≠ k) : put f k x i = f i := by unfold put; rw [if_neg h]
theorem put_Ws {f : Nat → Nat} {k x : Nat} (hf : Ws f) (hx : x < B) : Ws (put f k x) := by
 intro i; unfold put; split
 · exact hx
 · exact hf i
theorem V_put_low {f : Nat → Nat} {k x n : Nat} (h : n ≤ k) : V (put f k x) n = V f n := V_congr fun i hi => put_ne (by omega)
def ev (K : Int) (m : Nat) (e : Int) : Nat := m * 2 ^ (e - K).toNat
theorem ev_at {K' K e : Int} (m : Nat) (h : K' ≤ K) (h2 : K ≤ e) : ev K' m e = ev K m e * 2 ^ (K - K').toNat := by
 unfold ev
 rw [Nat.mul_assoc, ← Nat.pow_add]
 have : (e - K').toNat = (e - K).toNat + (K - K').toNat := by omega
 rw [this]
def Eqv (m : Nat) (e : Int) (M : Nat) (E : Int) : Prop := ∃ K, K ≤ e ∧ K ≤ E ∧ ev K m e = ev K M E
theorem Eqv.all {m M : Nat} {e E : Int} (h : Eqv m e M E) (K' : Int) (h1 : K' ≤ e) (h2 : K' ≤ E) : ev K' m e = ev K' M E := by
 obtain ⟨K, a, b, q⟩ := h
 rcases Int.le_total K' K with c | c
 · rw [ev_at m c a, ev_at M c b, q]
 · exact Nat.eq_of_mul_eq_mul_right (Nat.two_pow_pos (K' - K).toNat) (by rw [← ev_at m c h1, ← ev_at M c h2, q])
theorem Eqv.rfl' (m : Nat) (e : Int) : Eqv m e m e := ⟨e, Int.le_refl e, Int.le_refl e, rfl⟩
theorem Eqv.symm {m M : Nat} {e E : Int} (h : Eqv m e M E) : Eqv M E m e := by
 obtain ⟨K, a, b, q⟩ := h
 exact ⟨K, b, a, q.symm⟩
theorem Eqv.trans {m M M' : Nat} {e E E' : Int} (h : Eqv m e M E) (h' : Eqv M E M' E') : Eqv m e M' E' := by
 refine ⟨min e (min E E'), by omega, by omega, ?_⟩
 rw [h.all _ (by omega) (by omega), h'.all _ (by omega) (by omega)]
theorem Eqv.of_dn {m M : Nat} {e E : Int} (c : e ≤ E) (h : m = M * 2 ^ (E - e).toNat) : Eqv m e M E := by
 refine ⟨e, Int.le_refl e, c, ?_⟩
 unfold ev
 rw [Int.sub_self, h]
 simp
theorem Eqv.half {m : Nat} (e : Int) (h : m % 2 = 0) : Eqv m e (m / 2) (e + 1) := by
 refine Eqv.of_dn (by omega) ?_
 rw [show (e + 1 - e).toNat = 1 by omega]
 omega
def Good (f : Nat) (L : Int) (M : Nat) (E : Int) : Prop := M < 2 ^ (f + 1) ∧ L ≤ E ∧ (2 ^ f ≤ M ∨ E = L)
def mt (f : Nat) (b : Nat) : Nat := if b / 2 ^ f = 0 then b else b % 2 ^ f + 2 ^ f
def xp (f : Nat) (L : Int) (b : Nat) : Int := if b / 2 ^ f = 0 then L else L + ((b / 2 ^ f : Nat) : Int) - 1
theorem parts_good (f : Nat) (L : Int) (b : Nat) : Good f L (mt f b) (xp f L b) := by
 unfold mt xp
 have p := Nat.two_pow_pos f
 by_cases h : b / 2 ^ f = 0
 · rw [if_pos h, if_pos h]
   have : b < 2 ^ f := by
    rcases Nat.div_eq_zero_iff.1 h with h | h <;> omega
   refine ⟨?_, Int.le_refl L, .inr rfl⟩
   rw [Nat.pow_succ]
   omega
 · rw [if_neg h, if_neg h]
   have := Nat.mod_lt b p
   refine ⟨?_, ?_, .inl (by omega)⟩
   · rw [Nat.pow_succ]
     omega
   · generalize b / 2 ^ f = q at h ⊢
     omega
namespace Big
def B : Nat := 4294967296
theorem B_pos : 0 < B := by decide
def V (f : Nat → Nat) : Nat → Nat
 | 0 => 0
 | n + 1 => V f n + f n * B ^ n
def Ws (f : Nat → Nat) : Prop := ∀ i, f i < B
theorem V_zero (f : Nat → Nat) : V f 0 = 0 := rfl
theorem V_succ (f : Nat → Nat) (n : Nat) : V f (n + 1) = V f n + f n * B ^ n := rfl
theorem V_congr {f g : Nat → Nat} : ∀ {n : Nat}, (∀ i, i < n → f i = g i) → V f n = V g n
 | 0, _ => rfl
 | n + 1, h => by rw [V_succ, V_succ, V_congr (fun i hi => h i (by omega)), h n (by omega)]
theorem V_lt {f : Nat → Nat} (hf : Ws f) : ∀ n, V f n < B ^ n
  | 0 => by rw [V_zero, Nat.pow_zero]; decide
  | n + 1 => by
    have a := V_lt hf n
    have b := hf n
    have c : (f n + 1) * B ^ n ≤ B * B ^ n := Nat.mul_le_mul_right _ b
    rw [V_succ, Nat.pow_succ]
    rw [Nat.add_mul, Nat.one_mul] at c
    rw [Nat.mul_comm (B ^ n) B]
    omega
theorem V_ge {f : Nat → Nat} {n : Nat} (h : f n ≠ 0) : B ^ n ≤ V f (n + 1) := by
 have a : 1 * B ^ n ≤ f n * B ^ n := Nat.mul_le_mul_right _ (by omega)
 rw [V_succ]; omega
theorem split_gen {u v x p q : Nat} : u + v * p + x * (p * q) = u + (v + x * q) * p := by grind
theorem V_split (f : Nat → Nat) (a : Nat) : ∀ b, V f (a + b) = V f a + V (fun i => f (a + i)) b * B ^ a
  | 0 => by rw [V_zero, Nat.zero_mul]; rfl
  | b + 1 => by
    have e := V_split f a b
    rw [← Nat.add_assoc, V_succ, e, V_succ, Nat.pow_add]
    exact split_gen
theorem V_zeros {f : Nat → Nat} {m : Nat} : ∀ {n : Nat}, m ≤ n → (∀ i, m ≤ i → i < n → f i = 0) → V f n = V f m
  | 0, h, _ => by
    have e : m = 0 := by omega
    rw [e]
  | n + 1, h, z => by
    by_cases e : m = n + 1
    · rw [e]
    · rw [V_succ, z n (by omega) (by omega), Nat.zero_mul, Nat.add_zero]
      exact V_zeros (by omega) (fun i a b => z i a (by omega))
theorem V_nought (n : Nat) : V (fun _ => 0) n = 0 := V_zeros (f := fun _ => 0) (Nat.zero_le n) (fun _ _ _ => rfl)
def Top (f : Nat → Nat) (n : Nat) : Prop := n = 0 ∨ f (n - 1) ≠ 0
theorem Top_ge {f : Nat → Nat} {n : Nat} (h : Top f n) (hn : 0 < n) : B ^ (n - 1) ≤ V f n := by
 rcases h with h | h
 · omega
 · have := V_ge h
   rw [show n - 1 + 1 = n by omega] at this
   exact this
theorem len_lt {f g : Nat → Nat} {m n : Nat} (hf : Ws f) (hg : Top g n) (h : m < n) : V f m < V g n := by
 have a := V_lt hf m
 have b := Top_ge hg (by omega)
 have c : B ^ m ≤ B ^ (n - 1) := Nat.pow_le_pow_right B_pos (by omega)
 omega
theorem len_le {f : Nat → Nat} {n k : Nat} (t : Top f n) (h : V f n < B ^ k) : n ≤ k := by
 by_cases c : n ≤ k
 · exact c
 · exfalso
   have a := Top_ge t (by omega)
   have b : B ^ k ≤ B ^ (n - 1) := Nat.pow_le_pow_right B_pos (by omega)
   omega
def tl (f : Nat → Nat) : Nat → Nat
 | 0 => 0
 | n + 1 => if f n = 0 then tl f n else n + 1
theorem tl_le (f : Nat → Nat) : ∀ n, tl f n ≤ n
  | 0 => Nat.le_refl _
  | n + 1 => by
    unfold tl
    split
    · have := tl_le f n; omega
    · exact Nat.le_refl _
theorem tl_top (f : Nat → Nat) : ∀ n, Top f (tl f n)
  | 0 => Or.inl rfl
  | n + 1 => by
    unfold tl
    split
    · exact tl_top f n
    · exact Or.inr (by simpa using ‹_›)
theorem tl_V (f : Nat → Nat) : ∀ n, V f (tl f n) = V f n
  | 0 => rfl
  | n + 1 => by
    unfold tl
    split
    · rename_i h; rw [tl_V f n, V_succ, h, Nat.zero_mul, Nat.add_zero]
    · rfl
theorem tl_zero {f : Nat → Nat} {n : Nat} (h : f n = 0) : tl f (n + 1) = tl f n := by
 show (if f n = 0 then tl f n else n + 1) = _
 rw [if_pos h]
theorem tl_stop {f : Nat → Nat} {n : Nat} (h : f n ≠ 0) : tl f (n + 1) = n + 1 := by
 show (if f n = 0 then tl f n else n + 1) = _
 rw [if_neg h]
theorem V_lt_at {f g : Nat → Nat} (hf : Ws f) {k : Nat} (hk : f k < g k) : ∀ {n : Nat}, k < n → (∀ j, k < j → j < n → f j = g j) → V f n < V g n
  | 0, h, _ => absurd h (by omega)
  | n + 1, h, e => by
    by_cases c : k = n
    · subst c
      have a := V_lt hf k
      have b : (f k + 1) * B ^ k ≤ g k * B ^ k := Nat.mul_le_mul_right _ hk
      rw [V_succ, V_succ]
      rw [Nat.add_mul, Nat.one_mul] at b
      omega
    · have i := V_lt_at hf hk (n := n) (by omega) (fun j a b => e j a (by omega))
      rw [V_succ, V_succ, e n (by omega) (by omega)]
      omega
def put (f : Nat → Nat) (k x : Nat) : Nat → Nat := fun i => if i = k then x else f i
theorem put_at (f : Nat → Nat) (k x : Nat) : put f k x k = x := by unfold put; rw [if_pos rfl]
theorem put_ne {f : Nat → Nat} {k x i : Nat} (h : i ≠ k) : put f k x i = f i := by unfold put; rw [if_neg h]
theorem put_Ws {f : Nat → Nat} {k x : Nat} (hf : Ws f) (hx : x < B) : Ws (put f k x) := by
 intro i; unfold put; split
 · exact hx
 · exact hf i
theorem V_put_low {f : Nat → Nat} {k x n : Nat} (h : n ≤ k) : V (put f k x) n = V f n := V_congr fun i hi => put_ne (by omega)
theorem sum_gen {β v a b p x y c q r : Nat} (h : v + c * p = a + b) (e : β * q + r = x + y + c) : v + r * p + q * (p * β) = a + x * p + (b + y * p) := by
 have : r * p + q * (p * β) = (β * q + r) * p := by grind
 rw [e] at this
 grind
theorem sum_step {v a b p x y c : Nat} (h : v + c * p = a + b) : v + (x + y + c) % B * p + (x + y + c) / B * (p * B) = a + x * p + (b + y * p) :=
 sum_gen h (Nat.div_add_mod (x + y + c) B)
theorem sub_step {β v a b p x y c l d : Nat} (h : v + b = a + c * p) (hl : l + y + c = x + d * β) : v + l * p + (b + y * p) = a + x * p + d * (p * β) := by
 have : l * p + y * p + c * p = x * p + d * (p * β) := by
  have e : (l + y + c) * p = (x + d * β) * p := by rw [hl]
  grind
 omega
end Big
theorem BB : B = Big.B * Big.B := by decide
theorem BB_pow (k : Nat) : B ^ k = Big.B ^ (2 * k) := by rw [BB, Nat.pow_mul, Nat.pow_two]
def halves (f : Nat → Nat) (i : Nat) : Nat := if i % 2 = 0 then f (i / 2) % Big.B else f (i / 2) / Big.B
theorem halves_even (f : Nat → Nat) (k : Nat) : halves f (2 * k) = f k % Big.B := by
 unfold halves; rw [if_pos (by omega), show 2 * k / 2 = k by omega]
theorem halves_odd (f : Nat → Nat) (k : Nat) : halves f (2 * k + 1) = f k / Big.B := by
 unfold halves; rw [if_neg (by omega), show (2 * k + 1) / 2 = k by omega]
theorem half_lt {x : Nat} (h : x < B) : x / Big.B < Big.B := Nat.div_lt_of_lt_mul (by rw [← BB]; exact h)
theorem halves_Ws {f : Nat → Nat} (h : Ws f) : Big.Ws (halves f) := by
 intro i; unfold halves; split
 · exact Nat.mod_lt _ Big.B_pos
 · exact half_lt (h _)
theorem half_gen {v x d p q : Nat} (q1 : d * (x / d) + x % d = x) (hp : q = p) : v + x % d * q + x / d * (q * d) = v + x * p := by
 rw [hp]
 have e : x % d * p + x / d * (p * d) = (d * (x / d) + x % d) * p := by grind
 rw [q1] at e
 omega
theorem halves_V (f : Nat → Nat) : ∀ k, Big.V (halves f) (2 * k) = V f k
  | 0 => rfl
  | k + 1 => by
    rw [show 2 * (k + 1) = 2 * k + 1 + 1 by omega, Big.V_succ, Big.V_succ, halves_V f k, halves_even, halves_odd, V_succ, Nat.pow_succ]
    exact half_gen (Nat.div_add_mod _ _) (BB_pow k).symm
def cut (g : Nat → Nat) (n i : Nat) : Nat := if i < n then g i else 0
theorem cut_Ws {g : Nat → Nat} {n : Nat} (h : Big.Ws g) : Big.Ws (cut g n) := by
 intro i; unfold cut; split
 · exact h i
 · exact Big.B_pos
def pairs (g : Nat → Nat) (n i : Nat) : Nat := cut g n (2 * i) + cut g n (2 * i + 1) * Big.B
theorem pair_lt {x y : Nat} (hx : x < Big.B) (hy : y < Big.B) : x + y * Big.B < B := by
 have h := Nat.mul_le_mul_right Big.B (Nat.succ_le_of_lt hy)
 rw [← BB, Nat.succ_mul] at h
 omega
theorem pairs_Ws {g : Nat → Nat} {n : Nat} (h : Big.Ws g) : Ws (pairs g n) := fun _ => pair_lt (cut_Ws h _) (cut_Ws h _)
theorem pair_gen {v x y d p q : Nat} (hp : q = p) : v + x * q + y * (q * d) = v + (x + y * d) * p := by rw [hp]; grind
theorem pairs_Vc (g : Nat → Nat) (n : Nat) : ∀ m, V (pairs g n) m = Big.V (cut g n) (2 * m)
  | 0 => rfl
  | m + 1 => by
    rw [show 2 * (m + 1) = 2 * m + 1 + 1 by omega, Big.V_succ, Big.V_succ, ← pairs_Vc g n m, V_succ, Nat.pow_succ]
    exact (pair_gen (BB_pow m).symm).symm
theorem pairs_V (g : Nat → Nat) (n : Nat) : V (pairs g n) ((n + 1) / 2) = Big.V g n := by
 rw [pairs_Vc, Big.V_zeros (m := n) (by omega) (fun i a _ => by unfold cut; rw [if_neg (by omega)])]
 exact Big.V_congr fun i hi => by unfold cut; rw [if_pos hi]
theorem pairs_Top {g : Nat → Nat} {n : Nat} (h : Big.Top g n) : Top (pairs g n) ((n + 1) / 2) := by
 rcases h with h | h
 · left; omega
 · by_cases z : n = 0
   · left; omega
   · right
     unfold pairs
     rcases (by omega : (n + 1) / 2 - 1 = (n - 1) / 2) with e
     rw [e]
     by_cases p : (n - 1) % 2 = 0
     · have e2 : 2 * ((n - 1) / 2) = n - 1 := by omega
       have c : cut g n (2 * ((n - 1) / 2)) = g (n - 1) := by rw [e2]; unfold cut; rw [if_pos (by omega)]
       rw [c]; omega
     · have e2 : 2 * ((n - 1) / 2) + 1 = n - 1 := by omega
       have c : cut g n (2 * ((n - 1) / 2) + 1) = g (n - 1) := by rw [e2]; unfold cut; rw [if_pos (by omega)]
       rw [c]
       have : 1 * 1 ≤ g (n - 1) * Big.B := Nat.mul_le_mul (by omega) Big.B_pos
       omega
end Go.Proofs.YtohhmobfmmeohaaGreatDoor
