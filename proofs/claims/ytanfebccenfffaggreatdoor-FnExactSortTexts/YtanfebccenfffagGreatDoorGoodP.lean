/- Which runes are good. -/
import Derived.Test.YtanfebccenfffagGreatDoorProg
namespace Go.Proofs.YtanfebccenfffagGreatDoor
def goodB (r : Int) : Bool := decide (0 ≤ r ∧ r ≤ 1114111 ∧ ¬ (55296 ≤ r ∧ r ≤ 57343))
end Go.Proofs.YtanfebccenfffagGreatDoor
