/- What CutRows answers, by the specification's way, without memory. -/
import Derived.Test.YtbgomhgohphglaaDoorSCut6
import Derived.Test.YtbgomhgohphglaaDoorSGood6
namespace Go.Proofs.YtbgomhgohphglaaDoor
open Go.RowKit

theorem cutA_is {l : List Rw} (hg : goodR l = true) : cutA l = cap40 (scF [] l) := by unfold cutA; rw [if_pos hg, cutF_is]

theorem cap40_sc {o : Option (List (List Rw))} {gs : List (List Rw)} (h : cap40 o = some gs) : o = some gs := by
  cases o with
  | none => cases h
  | some r =>
    have h' : (if r.length ≤ 40 then some r else none) = some gs := h
    split at h'
    · exact h'
    · cases h'
end Go.Proofs.YtbgomhgohphglaaDoor
