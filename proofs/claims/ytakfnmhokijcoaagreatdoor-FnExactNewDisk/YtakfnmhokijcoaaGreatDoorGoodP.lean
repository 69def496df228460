/- Which runes are good. -/
import Derived.Test.YtakfnmhokijcoaaGreatDoorProg
namespace Go.Proofs.YtakfnmhokijcoaaGreatDoor
def goodB (r : Int) : Bool := decide (0 ≤ r ∧ r ≤ 1114111 ∧ ¬ (55296 ≤ r ∧ r ≤ 57343))
end Go.Proofs.YtakfnmhokijcoaaGreatDoor
