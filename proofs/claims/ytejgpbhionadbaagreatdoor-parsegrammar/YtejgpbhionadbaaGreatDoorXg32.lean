/-
  Holds: UScD.
-/
import Derived.Test.YtejgpbhionadbaaGreatDoorChecked
import Derived.WalkKit
import Derived.Deep.DeepMust
import Derived.Lib.Strings
import Derived.Lib.BufferWrite
import Derived.Deep.OwnRows
import Derived.Deep.RegionHeld3
import Derived.Deep.QuietTactic
import Derived.BigQuiet
import Derived.Test.YtejgpbhionadbaaGreatDoorShelf
import Derived.Test.YtejgpbhionadbaaGreatDoorXg30
import Derived.Test.YtejgpbhionadbaaGreatDoorXg31
set_option maxRecDepth 100000
set_option maxHeartbeats 4000000
namespace Go.Proofs.YtejgpbhionadbaaGreatDoor
open Go.RowKit
theorem below_drewN {n:Nat}{w W:World}(h:Below n w W) (k:Nat):Below n w (W.drewN k):=⟨h.1,h.2,h.3,h.4,h.5⟩
theorem sclean_any (l:List UInt8) (hl:l.length≤140737488351256) (b:Nat) (h1:2≤b) (h2:b≤36) (w:World):Cb 129 #[.string (sB (l.take (rch b false l))),vI (b:Int)] w (.string (sB (rdg b false l))):=by
 have hz:(sB (l.take (rch b false l))).size≤140737488355327:=by rw [bl_size,List.length_take];omega
 have C:=clean_yes (sB (l.take (rch b false l))) hz b h1 h2 false w
 rw [bl_list,clean_run] at C
 by_cases q:rch b false l=0
 · rw [if_pos q] at C
   have C2:Cb 177 #[.string (sB (l.take (rch b false l))),vI (b:Int),.bool false] w (.tuple #[.string ⟨#[]⟩,.iface 63 (vI 3)]):=C
   rw [rdg_nil.2 q,show sB []=⟨#[]⟩ from rfl]
   clear C q hz
   generalize sB (l.take (rch b false l))=s at *
   go_enter Tryz.func129,Tryz.ntmps129
   go_wp2_with fail
   refine C2.mono ?_
   rintro e w1 ⟨rfl,b1⟩
   go_wp2
   go_ret
   exact ⟨rfl,b1⟩
 · rw [if_neg q] at C
   have C2:Cb 177 #[.string (sB (l.take (rch b false l))),vI (b:Int),.bool false] w (.tuple #[.string (sB (rdg b false l)),.nilIface]):=C
   clear C q hz
   generalize sB (l.take (rch b false l))=s at *
   generalize sB (rdg b false l)=t at *
   go_enter Tryz.func129,Tryz.ntmps129
   go_wp2_with fail
   refine C2.mono ?_
   rintro e w1 ⟨rfl,b1⟩
   go_wp2
   go_ret
   exact ⟨rfl,b1⟩
def rwV:Option (List UInt8 × List UInt8 × Nat) → Value
 | none=>.tuple #[.string ⟨#[]⟩,.string ⟨#[]⟩,vI 0]
 | some (W,P,n)=>.tuple #[.string (sB W),.string (sB P),vI (n:Int)]
theorem rows_any (l : List UInt8) (hl : l.length ≤ 140737488351256) (b : Nat) (h1 : 2 ≤ b) (h2 : b ≤ 36) (w : World) : Calls Tryz.prog 97 #[.string (sB l), .int .i64 (b : Int)] w fun e w' => e = .returned (rwV (mnt b false l)) ∧ Below w.heap.size w w' := by
  have R := fun W => run_any l hl b h1 h2 W
  have C := fun W => sclean_any l hl b h1 h2 W
  have P : ∀ W, Calls Tryz.prog 130 #[.string (sB (l.drop (rch b false l))), .string ⟨#[46]⟩] W fun e w' => e = .returned (cpV 46 (l.drop (rch b false l))) ∧ w' = W := fun W => cutPrefix_any (l.drop (rch b false l)) (by rw [List.length_drop]; omega) 46 W
  have x1 := bl_to l (rch b false l)
  have x2 := bl_from l (rch b false l)
  have rl := rch_le b l false
  have hs : (sB l).size ≤ 140737488351256 := hl
  have hn : rch b false l ≤ (sB l).size := rl
  have hn' : (rch b false l : Int) ≤ ((sB l).size : Int) := by omega
  have hn0 : (0 : Int) ≤ (rch b false l : Int) := by omega
  cases q : bgn 46 (l.drop (rch b false l)) with
  | false =>
    have HV : Hid (rwV (mnt b false l) = .tuple #[.string (sB (rdg b false l)), .string ⟨#[]⟩, .int .i64 (rch b false l : Int)]) := by
      have q' : ¬ hdC (l.drop (rch b false l)) = 46 := of_decide_eq_false q
      show _ = _
      unfold mnt
      rw [if_neg q']
      by_cases z : rch b false l = 0
      · rw [if_pos z, rdg_nil.2 z, z]; rfl
      · rw [if_neg z]; rfl
    rw [HV.out]
    have P2 : ∀ W, Calls Tryz.prog 130 #[.string (sB (l.drop (rch b false l))), .string ⟨#[46]⟩] W fun e w' => e = .returned (.tuple #[.string (sB (l.drop (rch b false l))), .bool false]) ∧ w' = W := fun W => by
      have := P W; unfold cpV at this; rw [q] at this; exact this
    clear P q HV rl hl
    generalize rch b false l = n at *
    generalize sB (rdg b false l) = t at *
    generalize sB (l.take n) = u at *
    generalize sB (l.drop n) = v at *
    generalize sB l = s at *
    go_enter Tryz.func97, Tryz.ntmps97
    go_wp2_with fail
    refine (R _).mono ?_
    rintro e w ⟨rfl, rfl⟩
    go_wp2_with fail
    refine (C _).mono ?_
    rintro e w1 ⟨rfl, b1⟩
    go_wp2_with fail
    refine (P2 _).mono ?_
    rintro e w1 ⟨rfl, rfl⟩
    go_wp2
    refine bodyPost_ret (results_tmp3 rfl _ _ _) rfl ?_
    exact ⟨rfl, b1⟩
  | true =>
    have q' : hdC (l.drop (rch b false l)) = 46 := of_decide_eq_true q
    have P2 : ∀ W, Calls Tryz.prog 130 #[.string (sB (l.drop (rch b false l))), .string ⟨#[46]⟩] W fun e w' => e = .returned (.tuple #[.string (sB (l.drop (rch b false l + 1))), .bool true]) ∧ w' = W := fun W => by
      have := P W; unfold cpV at this; rw [q] at this; rw [← List.drop_drop]; exact this
    have hl2 : (l.drop (rch b false l + 1)).length ≤ 140737488351256 := by rw [List.length_drop]; omega
    have R2 := fun W => run_any (l.drop (rch b false l + 1)) hl2 b h1 h2 W
    have C2 := fun W => sclean_any (l.drop (rch b false l + 1)) hl2 b h1 h2 W
    have x3 := bl_to (l.drop (rch b false l + 1)) (rch b false (l.drop (rch b false l + 1)))
    have rl2 := rch_le b (l.drop (rch b false l + 1)) false
    have hs2 : (sB (l.drop (rch b false l + 1))).size ≤ 140737488351256 := hl2
    have hm' : (rch b false (l.drop (rch b false l + 1)) : Int) ≤ ((sB (l.drop (rch b false l + 1))).size : Int) := by rw [bl_size]; omega
    have hm0 : (0 : Int) ≤ (rch b false (l.drop (rch b false l + 1)) : Int) := by omega
    have HV : Hid (rwV (mnt b false l) = if rch b false l + rch b false (l.drop (rch b false l + 1)) = 0 then .tuple #[.string ⟨#[]⟩, .string ⟨#[]⟩, .int .i64 0] else .tuple #[.string (sB (rdg b false l)), .string (sB (rdg b false (l.drop (rch b false l + 1)))), .int .i64 ((rch b false l + 1 + rch b false (l.drop (rch b false l + 1)) : Nat) : Int)]) := by
      show _ = _
      unfold mnt
      rw [if_pos q']
      by_cases z : rch b false l + rch b false (l.drop (rch b false l + 1)) = 0
      · rw [if_pos z, if_pos z]; rfl
      · rw [if_neg z, if_neg z]; rfl
    rw [HV.out]
    clear P q HV rl hl q' hl2 rl2
    generalize rch b false (l.drop (rch b false l + 1)) = m at *
    generalize sB (rdg b false (l.drop (rch b false l + 1))) = t2 at *
    generalize sB ((l.drop (rch b false l + 1)).take m) = u2 at *
    generalize sB (l.drop (rch b false l + 1)) = v2 at *
    generalize rch b false l = n at *
    generalize sB (rdg b false l) = t at *
    generalize sB (l.take n) = u at *
    generalize sB (l.drop n) = v at *
    generalize sB l = s at *
    by_cases z : n + m = 0
    · rw [if_pos z]
      have z' : ((n : Int) + (m : Int) == 0) = true := beq_iff_eq.mpr (by omega)
      clear z
      go_enter Tryz.func97, Tryz.ntmps97
      go_wp2_with fail
      refine (R _).mono ?_
      rintro e w ⟨rfl, rfl⟩
      go_wp2_with fail
      refine (C _).mono ?_
      rintro e w1 ⟨rfl, b1⟩
      go_wp2_with fail
      refine (P2 _).mono ?_
      rintro e w1 ⟨rfl, rfl⟩
      go_wp2_with fail
      refine (R2 _).mono ?_
      rintro e w1 ⟨rfl, rfl⟩
      go_wp2
      refine bodyPost_ret (results_tmp3 rfl _ _ _) rfl ?_
      exact ⟨rfl, b1⟩
    · rw [if_neg z]
      have z' : ((n : Int) + (m : Int) == 0) = false := beq_eq_false_iff_ne.mpr (by omega)
      go_enter Tryz.func97, Tryz.ntmps97
      go_wp2_with fail
      refine (R _).mono ?_
      rintro e w ⟨rfl, rfl⟩
      go_wp2_with fail
      refine (C _).mono ?_
      rintro e w1 ⟨rfl, b1⟩
      go_wp2_with fail
      refine (P2 _).mono ?_
      rintro e w1 ⟨rfl, rfl⟩
      go_wp2_with fail
      refine (R2 _).mono ?_
      rintro e w1 ⟨rfl, rfl⟩
      go_wp2_with fail
      refine (C2 _).mono ?_
      rintro e w2 ⟨rfl, b2⟩
      have B2 := b1.trans (b2.mono b1.size)
      clear b1 b2
      go_wp2
      refine bodyPost_ret (results_tmp3 rfl _ _ _) rfl ?_
      exact ⟨by simp, B2⟩
def sexV:Option (Int × Nat) → Value
 | none=>.tuple #[vI 0,vI 0]
 | some (e,m)=>.tuple #[vI e,vI (m:Int)]
theorem sgn_eq (r : List UInt8) : ((sB (r.take (sgA r))).toList == [45]) = sgM r := by
  rw [list_data, bl_list]
  cases r with
  | nil => rfl
  | cons c r =>
    by_cases h : c = 43 ∨ c = 45
    · rw [sgA_yes h]
      rcases h with h | h <;> subst h <;> rfl
    · rw [sgA_no h, List.take_zero]
      have : (c == 45) = false := beq_eq_false_iff_ne.mpr (fun y => h (Or.inr y))
      show _ = (c == 45)
      rw [this]; rfl
theorem exn_no {L:Nat}{c:UInt8}{r:List UInt8}(h:(sml c).toNat ≠ L):exn L (c :: r)=none:=by show (if _ then _ else _)=_;rw [if_neg h]
theorem exn_zero {L:Nat}{c:UInt8}{r:List UInt8}(h:rch 10 false (r.drop (sgA r))=0):exn L (c :: r)=none:=by
 show (if _ then _ else _)=_
 by_cases q:(sml c).toNat=L
 · rw [if_pos q,if_pos h]
 · rw [if_neg q]
theorem exn_yes {L:Nat}{c:UInt8}{r:List UInt8}(h:(sml c).toNat=L) (h2:rch 10 false (r.drop (sgA r)) ≠ 0):exn L (c :: r)=some (exNs r,1+sgA r+rch 10 false (r.drop (sgA r))):=by show (if _ then _ else _)=_;rw [if_pos h,if_neg h2]
theorem exponent_any (l : List UInt8) (hl : l.length ≤ 140737488351256) (L : UInt8) (w : World) : Calls Tryz.prog 98 #[.string (sB l), .int .u8 (L.toNat : Int)] w fun e w' => e = .returned (sexV (exn L.toNat l)) ∧ Below w.heap.size w w' := by
  cases l with
  | nil =>
    rw [show sexV (exn L.toNat []) = .tuple #[.int .i64 0, .int .i64 0] from rfl, show sB [] = ⟨#[]⟩ from rfl]
    go_enter Tryz.func98, Tryz.ntmps98
    go_wp2
    go_ret2
    exact ⟨rfl, Below.refl _ _⟩
  | cons c r =>
    have hp : 0 < (sB (c :: r)).size := by rw [bl_size]; simp
    have hne := empty_false hp
    have h00 : (sB (c :: r))[0]'hp = c := rfl
    have hc' : ((((sB (c :: r))[0]'hp).toNat : Nat) : Int) = (c.toNat : Int) := by rw [h00]
    have SM := fun W => small_any c W
    have x2 : (sB (c :: r)).extract 1 (sB (c :: r)).size = sB r := bl_from _ _
    have hbig : (sB (c :: r)).size ≤ 140737488351256 := hl
    have hr : r.length ≤ 140737488351256 := by simp at hl; omega
    by_cases q : (sml c).toNat = L.toNat
    · rw [q] at SM
      have T := fun W => takeSign_any r hr W
      unfold txV at T
      have sg := sgA_one r
      have sgl := sgA_le r
      have hd : (r.drop (sgA r)).length ≤ 140737488351256 := by rw [List.length_drop]; omega
      have R : ∀ W, Calls Tryz.prog 128 #[.string (sB (r.drop (sgA r))), .int .i64 10] W fun e w' => e = .returned (.int .i64 (rch 10 false (r.drop (sgA r)) : Int)) ∧ w' = W := fun W => run_any (r.drop (sgA r)) hd 10 (by omega) (by omega) W
      have hsA : (sB (r.take (sgA r))).size = sgA r := by rw [bl_size, List.length_take]; omega
      have hsB : (sB (r.drop (sgA r))).size ≤ 140737488351256 := hd
      have rl := rch_le 10 (r.drop (sgA r)) false
      have hn' : (rch 10 false (r.drop (sgA r)) : Int) ≤ ((sB (r.drop (sgA r))).size : Int) := by rw [bl_size]; omega
      have hn0 : (0 : Int) ≤ (rch 10 false (r.drop (sgA r)) : Int) := by omega
      by_cases z : rch 10 false (r.drop (sgA r)) = 0
      · rw [exn_zero z]
        show Calls _ _ _ _ fun e w' => e = .returned (.tuple #[.int .i64 0, .int .i64 0]) ∧ _
        rw [z] at R
        clear h00 q hl hr rl hd z hn' hn0 sgl
        generalize sB (c :: r) = s at *
        generalize sB (r.take (sgA r)) = A at *
        generalize sB (r.drop (sgA r)) = B at *
        generalize sB r = s2 at *
        go_enter Tryz.func98, Tryz.ntmps98
        go_wp2_with fail
        refine (SM _).mono ?_
        rintro e w ⟨rfl, rfl⟩
        go_wp2_with fail
        refine (T _).mono ?_
        rintro e w1 ⟨rfl, b1⟩
        have B1 : Hid (Below w.heap.size w w1) := b1
        clear b1
        go_wp2_with fail
        refine (R _).mono ?_
        rintro e w2 ⟨rfl, rfl⟩
        go_wp2
        go_ret2
        exact ⟨rfl, (((B1.out.alloc B1.out.size _)))⟩
      · rw [exn_yes q z]
        show Calls _ _ _ _ fun e w' => e = .returned (.tuple #[.int .i64 (exNs r), .int .i64 ((1 + sgA r + rch 10 false (r.drop (sgA r)) : Nat) : Int)]) ∧ _
        have C : ∀ W, Calls Tryz.prog 129 #[.string (sB ((r.drop (sgA r)).take (rch 10 false (r.drop (sgA r))))), .int .i64 10] W fun e w' => e = .returned (.string (sB (rdg 10 false (r.drop (sgA r))))) ∧ Below W.heap.size W w' := fun W => sclean_any (r.drop (sgA r)) hd 10 (by omega) (by omega) W
        have hlen := rdg_len (b := 10) (r.drop (sgA r)) false
        have N : ∀ W, Calls Tryz.prog 131 #[.string (sB (rdg 10 false (r.drop (sgA r))))] W fun e w' => e = .returned (.int .i64 (cnt 0 (rdg 10 false (r.drop (sgA r))) : Int)) ∧ w' = W := fun W => count_any (sB (rdg 10 false (r.drop (sgA r)))) (by rw [bl_size]; omega) (fun c hc => rdg_mem _ _ _ hc) W
        have x3 := bl_to (r.drop (sgA r)) (rch 10 false (r.drop (sgA r)))
        have se := sgn_eq r
        have hnz : ((rch 10 false (r.drop (sgA r)) : Int) == 0) = false := beq_eq_false_iff_ne.mpr (by omega)
        have hcm := cnt_le (rdg 10 false (r.drop (sgA r))) 0 (by omega)
        have HE : Hid (exNs r = if sgM r = true then -(cnt 0 (rdg 10 false (r.drop (sgA r))) : Int) else (cnt 0 (rdg 10 false (r.drop (sgA r))) : Int)) := rfl
        have hrb : rch 10 false (r.drop (sgA r)) ≤ 140737488351256 := by omega
        clear h00 q hl hr rl hd z sgl hlen
        generalize exNs r = X at *
        generalize cnt 0 (rdg 10 false (r.drop (sgA r))) = K at *
        generalize sB (rdg 10 false (r.drop (sgA r))) = D at *
        generalize sB ((r.drop (sgA r)).take (rch 10 false (r.drop (sgA r)))) = E at *
        generalize rch 10 false (r.drop (sgA r)) = n at *
        generalize sB (c :: r) = s at *
        generalize sB (r.take (sgA r)) = A at *
        generalize sB (r.drop (sgA r)) = B at *
        generalize sB r = s2 at *
        generalize sgA r = g at *
        cases hsg : sgM r with
        | true =>
          rw [hsg] at se HE
          have HE2 : Hid (X = -(K : Int)) := by have := HE.out; rw [if_pos rfl] at this; exact this
          clear HE hsg
          go_enter Tryz.func98, Tryz.ntmps98
          go_wp2_with fail
          refine (SM _).mono ?_
          rintro e w ⟨rfl, rfl⟩
          go_wp2_with fail
          refine (T _).mono ?_
          rintro e w1 ⟨rfl, b1⟩
          have B1 : Hid (Below w.heap.size w w1) := b1
          clear b1
          go_wp2_with fail
          refine (R _).mono ?_
          rintro e w2 ⟨rfl, rfl⟩
          go_wp2_with fail
          refine (C _).mono ?_
          rintro e w3 ⟨rfl, b3⟩
          have hc0 : w3.cell? ⟨w1.heap.size, 0, none⟩ = some (.string A) := (b3.cell (p := ⟨w1.heap.size, 0, none⟩) (by simp)).trans (by simp [go_sem])
          have B3 : Hid (Below w.heap.size w w3) := (B1.out.alloc B1.out.size _).trans (b3.mono (by have := B1.out.size; simp; omega))
          clear b3
          go_wp2_with fail
          refine (N _).mono ?_
          rintro e w3 ⟨rfl, rfl⟩
          go_wp2
          go_quiet (fail)
          go_wp2
          go_ret2
          exact ⟨by rw [HE2.out]; simp, below_drewN B3.out _⟩
        | false =>
          rw [hsg] at se HE
          have HE2 : Hid (X = (K : Int)) := by have := HE.out; rw [if_neg (by decide)] at this; exact this
          clear HE hsg
          go_enter Tryz.func98, Tryz.ntmps98
          go_wp2_with fail
          refine (SM _).mono ?_
          rintro e w ⟨rfl, rfl⟩
          go_wp2_with fail
          refine (T _).mono ?_
          rintro e w1 ⟨rfl, b1⟩
          have B1 : Hid (Below w.heap.size w w1) := b1
          clear b1
          go_wp2_with fail
          refine (R _).mono ?_
          rintro e w2 ⟨rfl, rfl⟩
          go_wp2_with fail
          refine (C _).mono ?_
          rintro e w3 ⟨rfl, b3⟩
          have hc0 : w3.cell? ⟨w1.heap.size, 0, none⟩ = some (.string A) := (b3.cell (p := ⟨w1.heap.size, 0, none⟩) (by simp)).trans (by simp [go_sem])
          have B3 : Hid (Below w.heap.size w w3) := (B1.out.alloc B1.out.size _).trans (b3.mono (by have := B1.out.size; simp; omega))
          clear b3
          go_wp2_with fail
          refine (N _).mono ?_
          rintro e w3 ⟨rfl, rfl⟩
          go_wp2
          go_quiet (fail)
          go_wp2
          go_ret2
          exact ⟨by rw [HE2.out]; simp, below_drewN B3.out _⟩
    · have q2 : (((sml c).toNat : Int) != (L.toNat : Int)) = true := bne_iff_ne.mpr fun y => q (Int.ofNat_inj.1 y)
      rw [exn_no q]
      show Calls _ _ _ _ fun e w' => e = .returned (.tuple #[.int .i64 0, .int .i64 0]) ∧ _
      clear h00 q hl hr x2
      generalize ((sml c).toNat : Int) = x at *
      generalize (L.toNat : Int) = y at *
      generalize sB (c :: r) = s at *
      go_enter Tryz.func98, Tryz.ntmps98
      go_wp2_with fail
      refine (SM _).mono ?_
      rintro e w ⟨rfl, rfl⟩
      go_wp2
      go_ret2
      exact ⟨rfl, Below.refl _ _⟩
end Go.Proofs.YtejgpbhionadbaaGreatDoor
