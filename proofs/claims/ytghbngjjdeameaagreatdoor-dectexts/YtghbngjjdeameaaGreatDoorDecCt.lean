/-
  strings.Cut at the separator e, for texts of every length.
-/
import Derived.Test.YtghbngjjdeameaaGreatDoorShelf
import Derived.Test.YtghbngjjdeameaaGreatDoorDecA
import Derived.Lib.CutLaws
import Derived.Lib.IndexBytes
import Derived.RegionTactic
namespace Go.Proofs.YtghbngjjdeameaaGreatDoor
open Go.RowKit

set_option maxRecDepth 100000 in
set_option maxHeartbeats 1000000 in
theorem indexE (s : ByteArray) (w : World) :
    Calls Tryz.prog 60 #[.string s, .string ⟨#[101]⟩] w fun e w' => e = .returned (.int .i64 (Lib.index s.data.toList [101])) ∧ w' = w := by
  have tl : (⟨#[101]⟩ : ByteArray).toList = [101] := list_data _
  cases q : (([101] : List UInt8) == s.toList)
  · have I := fun c W => indexByte_any s c W
    have e1 : Lib.index s.data.toList [101] = _ := Lib.one s ⟨#[101]⟩ rfl
    rw [e1]
    clear e1 tl
    go_enter Tryz.func60, Tryz.ntmps60
    go_wp2_with fail
    refine (I _ _).mono ?_
    rintro e w1 ⟨rfl, rfl⟩
    go_wp2
    go_ret
    exact ⟨rfl, rfl⟩
  · have e1 : Lib.index s.data.toList [101] = 0 := Lib.zero s ⟨#[101]⟩ (Or.inr (by rw [tl]; exact q))
    rw [e1]
    clear e1 tl
    go_enter Tryz.func60, Tryz.ntmps60
    go_wp2
    go_ret
    exact ⟨rfl, rfl⟩

set_option maxRecDepth 100000 in
set_option maxHeartbeats 1000000 in
theorem cutLite (s : ByteArray) (hs : s.size ≤ 9223372036854775806) (w : World) :
    Calls Tryz.prog 43 #[.string s, .string ⟨#[101]⟩] w fun e w' => e = .returned (.tuple #[.string ⟨(Lib.cut s.data.toList [101]).1.toArray⟩, .string ⟨(Lib.cut s.data.toList [101]).2.1.toArray⟩, .bool (Lib.cut s.data.toList [101]).2.2]) ∧ ∃ n, w' = w.drewN n := by
  have I := fun W => indexE s W
  have sz : (⟨#[101]⟩ : ByteArray).size = 1 := rfl
  rcases Lib.indexB_cases s ⟨#[101]⟩ with hix | ⟨i, hix, hroom⟩
  · obtain ⟨e1, e2, e3⟩ := Lib.cutB_miss s ⟨#[101]⟩ hix
    have e1' : (⟨(Lib.cut s.data.toList [101]).1.toArray⟩ : ByteArray) = s := e1
    have e2' : (⟨(Lib.cut s.data.toList [101]).2.1.toArray⟩ : ByteArray) = ByteArray.empty := e2
    have e3' : (Lib.cut s.data.toList [101]).2.2 = false := e3
    have hix' : Lib.index s.data.toList [101] = -1 := hix
    rw [e1', e2', e3']
    rw [hix'] at I
    clear e1 e2 e3 e1' e2' e3' hix hix'
    go_enter Tryz.func43, Tryz.ntmps43
    go_wp2_with fail
    refine (I _).mono ?_
    rintro e w1 ⟨rfl, rfl⟩
    go_wp2
    go_ret3
    exact ⟨rfl, 0, rfl⟩
  · obtain ⟨e1, e2, e3⟩ := Lib.cutB_hit s ⟨#[101]⟩ i hix
    have e1' : (⟨(Lib.cut s.data.toList [101]).1.toArray⟩ : ByteArray) = s.extract 0 i := e1
    have e2' : (⟨(Lib.cut s.data.toList [101]).2.1.toArray⟩ : ByteArray) = s.extract (i + 1) s.size := e2
    have e3' : (Lib.cut s.data.toList [101]).2.2 = true := e3
    have hix' : Lib.index s.data.toList [101] = (i : Int) := hix
    rw [e1', e2', e3']
    rw [hix'] at I
    rw [sz] at hroom
    clear e1 e2 e3 e1' e2' e3' hix hix' sz
    have c1 : (0 : Int) ≤ ↑i := by omega
    have c2 : (↑i : Int) ≤ ↑s.size := by omega
    have c3 : (0 : Int) ≤ ↑i + 1 := by omega
    have c4 : (↑i + 1 : Int) ≤ ↑s.size := by omega
    go_enter Tryz.func43, Tryz.ntmps43
    go_wp2_with fail
    refine (I _).mono ?_
    rintro e w1 ⟨rfl, rfl⟩
    go_wp2
    go_region
    go_wp2
    go_ret3
    exact ⟨rfl, 1, rfl⟩

set_option maxRecDepth 100000 in
set_option maxHeartbeats 1000000 in
theorem cutE (s : ByteArray) (hs : s.size ≤ 9223372036854775806) (w : World) :
    Calls Tryz.prog 22 #[.string s, .string ⟨#[101]⟩] w fun e w' => e = .returned (.tuple #[.string ⟨(Lib.cut s.data.toList [101]).1.toArray⟩, .string ⟨(Lib.cut s.data.toList [101]).2.1.toArray⟩, .bool (Lib.cut s.data.toList [101]).2.2]) ∧ ∃ n, w' = w.drewN n := by
  have I := fun W => cutLite s hs W
  generalize Lib.cut s.data.toList [101] = r at *
  go_enter Tryz.func22, Tryz.ntmps22
  go_wp2_with fail
  refine (I _).mono ?_
  rintro e w1 ⟨rfl, n, rfl⟩
  go_wp2
  go_ret3
  exact ⟨rfl, n, rfl⟩

end Go.Proofs.YtghbngjjdeameaaGreatDoor
