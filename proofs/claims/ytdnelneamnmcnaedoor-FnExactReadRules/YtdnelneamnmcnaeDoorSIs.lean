/- Contracts of the specification's IsNormalD and SameRunes. -/
import Derived.Test.YtdnelneamnmcnaeDoorSD
import Derived.Test.YtdnelneamnmcnaeDoorSame2
namespace Go.Proofs.YtdnelneamnmcnaeDoor
open Go.RowKit

theorem nD_len200 {zs : List Int} (h : okR zs = true) : (nD zs).length ≤ 1800 := by
  have h6 := (okR_true h).1
  have h7 := apD_len zs
  rw [nD_len]; omega

/-- What IsNormalD tells of a list. -/
def isD (zs : List Int) : Bool := okR zs && decide (nD zs = zs)
/-- What SameRunes tells of two. -/
def sameD (zs ys : List Int) : Bool := okR zs && okR ys && decide (nD zs = nD ys)

set_option maxRecDepth 100000 in
set_option maxHeartbeats 1000000 in
theorem specIs_any {w : World} {B : Nat} {v : Value} {zs : List Int} (hz : zs.length ≤ 1048576) (hI : Ints w B v zs) :
    Calls Tryd.prog 8 #[v] w fun e w' => e = .returned (.tuple #[.bool (isD zs), .bool (okR zs)]) ∧ Below w.heap.size w w' := by
  have G := good_any hz hI
  unfold isD
  cases hok : okR zs
  · rw [hok] at G
    clear hI hok
    go_enter Tryd.func8, Tryd.ntmps8
    go_wp2_with fail
    refine G.mono ?_
    rintro e w1 ⟨rfl, rfl⟩
    clear G
    go_wp2
    go_ret2
    exact ⟨rfl, Below.refl _ _⟩
  · rw [hok] at G
    have D := d_any (okR_true hok).1 hI
    have hb := nD_len200 hok
    clear hok
    generalize nD zs = ds at *
    go_enter Tryd.func8, Tryd.ntmps8
    go_wp2_with fail
    refine G.mono ?_
    rintro e w1 ⟨rfl, rfl⟩
    clear G
    go_wp2_with fail
    refine D.mono ?_
    rintro e w2 ⟨v2, rfl, h2, b2⟩
    clear D
    go_wp2_with fail
    refine (same2_any (by omega) hz h2 (hI.below b2)).mono ?_
    rintro e w3 ⟨rfl, n3, rfl⟩
    go_wp2
    go_ret2
    exact ⟨rfl, below_drewN b2 n3⟩

set_option maxRecDepth 100000 in
set_option maxHeartbeats 1000000 in
theorem specSame_any {w : World} {B B' : Nat} {v v' : Value} {zs ys : List Int} (hz : zs.length ≤ 1048576) (hy : ys.length ≤ 1048576) (hI : Ints w B v zs) (hJ : Ints w B' v' ys) :
    Calls Tryd.prog 12 #[v, v'] w fun e w' => e = .returned (.tuple #[.bool (sameD zs ys), .bool (okR zs && okR ys)]) ∧ Below w.heap.size w w' := by
  have G := good_any hz hI
  have G2 := good_any hy hJ
  unfold sameD
  cases hok : okR zs
  · rw [hok] at G
    clear hI hJ hok G2
    go_enter Tryd.func12, Tryd.ntmps12
    go_wp2_with fail
    refine G.mono ?_
    rintro e w1 ⟨rfl, rfl⟩
    clear G
    go_wp2
    go_ret2
    exact ⟨rfl, Below.refl _ _⟩
  · rw [hok] at G
    cases hok2 : okR ys
    · rw [hok2] at G2
      clear hI hJ hok hok2
      go_enter Tryd.func12, Tryd.ntmps12
      go_wp2_with fail
      refine G.mono ?_
      rintro e w1 ⟨rfl, rfl⟩
      go_wp2_with fail
      refine G2.mono ?_
      rintro e w1 ⟨rfl, rfl⟩
      clear G G2
      go_wp2
      go_ret2
      exact ⟨rfl, Below.refl _ _⟩
    · rw [hok2] at G2
      have D := d_any (okR_true hok).1 hI
      have D2 := fun (u : World) (h : Ints u B' v' ys) => d_any (okR_true hok2).1 h
      have hb := nD_len200 hok
      have hb2 := nD_len200 hok2
      clear hok hok2
      generalize nD zs = ds at *
      generalize nD ys = es at *
      go_enter Tryd.func12, Tryd.ntmps12
      go_wp2_with fail
      refine G.mono ?_
      rintro e w1 ⟨rfl, rfl⟩
      go_wp2_with fail
      refine G2.mono ?_
      rintro e w1 ⟨rfl, rfl⟩
      clear G G2
      go_wp2_with fail
      refine D.mono ?_
      rintro e w2 ⟨v2, rfl, h2, b2⟩
      clear D
      go_wp2_with fail
      refine (D2 _ (hJ.below b2)).mono ?_
      rintro e w3 ⟨v3, rfl, h3, b3⟩
      clear D2
      have c3 := b2.trans (b3.mono b2.size)
      go_wp2_with fail
      refine (same2_any (by omega) (by omega) (h2.below b3) h3).mono ?_
      rintro e w4 ⟨rfl, n4, rfl⟩
      go_wp2
      go_ret2
      exact ⟨rfl, below_drewN c3 n4⟩
end Go.Proofs.YtdnelneamnmcnaeDoor
