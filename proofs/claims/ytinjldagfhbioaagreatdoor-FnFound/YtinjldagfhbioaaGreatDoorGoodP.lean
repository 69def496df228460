/- Which runes are good. -/
import Derived.Test.YtinjldagfhbioaaGreatDoorProg
namespace Go.Proofs.YtinjldagfhbioaaGreatDoor
def goodB (r : Int) : Bool := decide (0 ≤ r ∧ r ≤ 1114111 ∧ ¬ (55296 ≤ r ∧ r ≤ 57343))
end Go.Proofs.YtinjldagfhbioaaGreatDoor
