/- Which runes are good. -/
import Derived.Test.YtddelohmppdndaaGreatDoorProg
namespace Go.Proofs.YtddelohmppdndaaGreatDoor
def goodB (r : Int) : Bool := decide (0 ≤ r ∧ r ≤ 1114111 ∧ ¬ (55296 ≤ r ∧ r ≤ 57343))
end Go.Proofs.YtddelohmppdndaaGreatDoor
