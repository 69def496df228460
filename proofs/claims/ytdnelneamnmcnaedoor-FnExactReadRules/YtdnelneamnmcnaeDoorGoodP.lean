/- Which runes are good. -/
import Derived.Test.YtdnelneamnmcnaeDoorProg
namespace Go.Proofs.YtdnelneamnmcnaeDoor
def goodB (r : Int) : Bool := decide (0 ≤ r ∧ r ≤ 1114111 ∧ ¬ (55296 ≤ r ∧ r ≤ 57343))
end Go.Proofs.YtdnelneamnmcnaeDoor
