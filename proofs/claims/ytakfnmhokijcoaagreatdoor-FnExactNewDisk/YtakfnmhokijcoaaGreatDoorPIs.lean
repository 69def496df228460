/- What IsNormalD and SameRunes tell, without memory. -/
import Derived.Test.YtakfnmhokijcoaaGreatDoorSD
namespace Go.Proofs.YtakfnmhokijcoaaGreatDoor

theorem nD_len200 {zs : List Int} (h : okR zs = true) : (nD zs).length ≤ 1800 := by
  have h6 := (okR_true h).1
  have h7 := apD_len zs
  rw [nD_len]; omega

/-- What IsNormalD tells of a list. -/
def isD (zs : List Int) : Bool := okR zs && decide (nD zs = zs)
/-- What SameRunes tells of two. -/
def sameD (zs ys : List Int) : Bool := okR zs && okR ys && decide (nD zs = nD ys)
end Go.Proofs.YtakfnmhokijcoaaGreatDoor
