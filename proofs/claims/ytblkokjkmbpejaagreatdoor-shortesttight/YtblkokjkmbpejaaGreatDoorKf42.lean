/-
  Holds: LawSoA LawSoD.
-/
import Derived.Test.YtblkokjkmbpejaaGreatDoorRows
import Derived.Laws.Externs
import Derived.WalkKit
import Derived.WalkSpells
import Derived.WalkLawsBesides
import Derived.Lib.Mul64
import Derived.Stop.Asserts
import Derived.RowKitTokens
import Derived.Lib.Strings
import Derived.Lib.BufferWrite
import Derived.Deep.OwnRows
import Derived.Deep.RegionHeld3
import Derived.BigQuiet
import Derived.Lib.ConvBytes
import Derived.Laws.CopyOwn
import Derived.Lib.TrailingZeros
import Derived.Lib.ItoaNum
import Derived.Deep.LoopGhost
import Derived.Deep.AppendLies
import Derived.Deep.DeepCutAuto
import Derived.Test.YtblkokjkmbpejaaGreatDoorShelf
import Derived.Test.YtblkokjkmbpejaaGreatDoorKf41
set_option maxRecDepth 100000
set_option maxHeartbeats 4000000
namespace Go.Proofs.YtblkokjkmbpejaaGreatDoor
open Go.RowKit
theorem aCg {b:Nat}{z n:Int}(h:Bad b z n) (w:World):Cb 8 #[vU (b:Int),vI z] w (.tuple #[dcV ⟨#[]⟩ 0 false,.iface 69 (vI n)]):=aCh (fun W=>aCk h W) w
theorem wH        (b : Nat) (hb : b < 18446744073709551616) (z : Int) (w : World) :
    Calls Tryz.prog 6 #[.int .u64 (b : Int), .int .i64 z] w fun x w' => x = .returned (.bool true) ∧ Below w.heap.size w w' := by
  rcases aD9   b z hb with ⟨n, h⟩ | ⟨f, T, L, S, I, h⟩
  · exact yF        h.not0 (fun W => bO      W) (fun W => aCg     h W) (fun W => aCd     h.not0 (fun W => aBp     h W) W) w
  · by_cases m0 : mg S b = 0
    · have D0 : Dx ⟨#[]⟩ 0 (vlF f L (mg S b)) := by
        rw [m0, sC     ]
        exact aW
      exact uC         (fun W => bO      W) (fun W => aBB     h m0 W) (fun W => oP     h D0 W) w
    · obtain ⟨u, o, s, p, t, q, A, d1, d2, k⟩ := mR    h m0
      obtain ⟨N, d, e1, e2, e3, e4, e5⟩ := k.first (decide (b % 2 = 0))
      have N17 : N ≤ 17 := by split at e3 <;> omega
      have sz := k.size e2 N17 e4 e5
      have bs := k.beside e2 N17 e4 sz
      subst sz
      obtain ⟨Z, D, bs⟩ := bs
      have u0 := k.pos
      have hz : (z = 32 ∧ d.1.size ≤ 9) ∨ ((z == 32) = false ∧ ¬ z = 32) := by
        by_cases c : z = 32
        · rw [if_pos c] at e3
          exact Or.inl ⟨c, e3⟩
        · exact Or.inr ⟨beq_eq_false_iff_ne.mpr c, c⟩
      have HD := fun W => k.digits e1 W
      have HE := fun W => oP     h k.g W
      have HV := fun W => aH        D.vd W
      have HN := fun W => k.near16 e2 N17 e4 W
      have HM := fun W => aCO    h W
      have HB : 1 < d.1.size → ∀ W, Calls Tryz.prog 22 #[.int .u64 (b : Int), .int .i64 z, .int .i64 ((d.1.size : Int) - 1)] W fun e w' => e = .returned (.tuple #[.bool false, .int .i64 0]) ∧ Below W.heap.size W w' := by
        intro nb W
        obtain ⟨m, hm⟩ : ∃ m, m = d.1.size - 1 := ⟨_, rfl⟩
        have no := e5 m (by omega) (by omega)
        obtain ⟨c1, du, c3, c4⟩ := k.c m (by omega) (by omega)
        have x := aDj    h k.d k.e m0 (n := m) (by omega) (by omega) k.g k.pos k.o1 du c3 c4 W
        rw [k.doc _ (by omega) (by omega)] at no
        have y : hdB (decide (b % 2 = 0)) s p t q (d1 m) = false ∧ hdB (decide (b % 2 = 0)) s p t q (d2 m) = false := by
          cases a : hdB (decide (b % 2 = 0)) s p t q (d1 m) with
          | true =>
            rw [a, if_pos rfl] at no
            split at no <;> cases no
          | false =>
            rw [a, if_neg Bool.false_ne_true] at no
            cases a2 : hdB (decide (b % 2 = 0)) s p t q (d2 m) with
            | true => rw [a2, if_pos rfl] at no; cases no
            | false => exact ⟨rfl, rfl⟩
        unfold hdB at y
        rw [c1] at y
        rw [y.1, y.2, Bool.or_false, show (m : Int) = (d.1.size : Int) - 1 by omega] at x
        exact x
      have HC := fun W => iW      D.vd k.g.vd W
      rw [fJ     D k.g] at HC
      rcases bs with eq | ⟨up, e, Y, E, he, hd, sum, r0, HX, way⟩
      · rw [show aG   (Z : Int) ((vlF f L (mg S b) : Nat) : Int) = 0 from       jK.2 eq] at HC
        by_cases nb : 1 < d.1.size
        · exact xW        u0 e2 N17 hz nb HD HE HV HN HM (HB nb) (fun W => bO      W) HC w
        · exact xV        u0 e2 N17 hz nb HD HE HV HN HM (fun W => bO      W) HC w
      · have HI : ∀ W, Calls Tryz.prog 25 #[dcV e.1 e.2 false, .int .u64 (b : Int), .int .i64 z] W fun x w' => x = .returned (.tuple #[.bool (hdB (decide (b % 2 = 0)) s p t q e), .int .i64 0]) ∧ Below W.heap.size W w' := fun W => oQ     h k.d k.e E.vd W
        have hc : aG   (Z : Int) ((vlF f L (mg S b) : Nat) : Int) ≠ 0 := fun g => by
          have :=       jK.1 g
          rcases way with ⟨_, g2, _⟩ | ⟨_, g2, _⟩ <;> omega
        have hup : decide (aG   (Z : Int) ((vlF f L (mg S b) : Nat) : Int) < 0) = up := by
          rcases way with ⟨rfl, g2, _⟩ | ⟨rfl, g2, _⟩
          · exact decide_eq_true (      dH.2 g2)
          · exact decide_eq_false (fun g => by have :=       dH.1 g; omega)
        cases hin : hdB (decide (b % 2 = 0)) s p t q e with
        | false =>
          rw [hin] at HI
          by_cases nb : 1 < d.1.size
          · exact xY        u0 e2 N17 hz nb hc hup HD HE HV HN HM (HB nb) (fun W => bO      W) HC HX HI w
          · exact xX        u0 e2 N17 hz nb hc hup HD HE HV HN HM (fun W => bO      W) HC HX HI w
        | true =>
          rw [hin] at HI
          obtain ⟨f1, f2, f3⟩ := k.few e2 N17 he
          obtain ⟨g1, g2, g3⟩ := k.few e2 N17 hd
          obtain ⟨b1, b2, b3⟩ := k.near_pt
          have zp : 0 < Z + Y := by
            rw [sum]
            have := gP    (X := vlF f L (mg S b)) (cU      (A - d.1.size))
            have := pE     (f := f) L m0
            omega
          obtain ⟨s2, p2, G, HP⟩ := aB0     D E (by omega) (by omega) (by omega) (by omega) (by omega) (by omega) (by omega) (by omega) zp
          rw [sum] at G
          obtain ⟨s3, p3, TT, HT⟩ := vN        k.g k.pos k.short k.o1
          have HK := fun W => iW      TT.vd G.vd W
          rw [fJ     TT G, yJ        (cU      (A - d.1.size)) r0] at HK
          have tie : 2 * (vlF f L (mg S b) % 10 ^ (A - d.1.size)) = 10 ^ (A - d.1.size) → (dgt d.1 (d.1.size - 1) - 48) % 2 = 0 → Calls Tryz.prog 6 #[.int .u64 (b : Int), .int .i64 z] w fun x w' => x = .returned (.bool true) ∧ Below w.heap.size w w' := by
            intro g ev
            rw [      jK.2 g] at HK
            by_cases nb : 1 < d.1.size
            · exact yA        u0 e2 N17 hz nb hc hup D.dg ev HD HE HV HN HM (HB nb) (fun W => bO      W) HC HX HI HP HT HK w
            · exact xZ        u0 e2 N17 hz nb hc hup D.dg ev HD HE HV HN HM (fun W => bO      W) HC HX HI HP HT HK w
          rcases way with ⟨rfl, g2, g | ⟨g, ev⟩⟩ | ⟨rfl, g2, g⟩
          · have hk :=       dH.2 g
            have hc0 :=       dH.2 g2
            by_cases nb : 1 < d.1.size
            · exact yC        u0 e2 N17 hz nb hc hup hc0 hk HD HE HV HN HM (HB nb) (fun W => bO      W) HC HX HI HP HT HK w
            · exact yB        u0 e2 N17 hz nb hc hup hc0 hk HD HE HV HN HM (fun W => bO      W) HC HX HI HP HT HK w
          · exact tie g ev
          · rcases g hin with g | ⟨g, ev⟩
            · have hk : 0 < aG   ((2 * (vlF f L (mg S b) % 10 ^ (A - d.1.size)) : Nat) : Int) ((10 ^ (A - d.1.size) : Nat) : Int) := by
                unfold aG
                rw [if_neg (by omega), if_pos (by omega)]
                decide
              have hc0 : ¬ aG   (Z : Int) ((vlF f L (mg S b) : Nat) : Int) < 0 := fun g => by have :=       dH.1 g; omega
              by_cases nb : 1 < d.1.size
              · exact yE        u0 e2 N17 hz nb hc hup hc0 hk HD HE HV HN HM (HB nb) (fun W => bO      W) HC HX HI HP HT HK w
              · exact yD        u0 e2 N17 hz nb hc hup hc0 hk HD HE HV HN HM (fun W => bO      W) HC HX HI HP HT HK w
            · exact tie g ev
end Go.Proofs.YtblkokjkmbpejaaGreatDoor
