/- A text's runes, taken apart, without memory. -/
import Derived.Test.YtinjldagfhbioaaGreatDoorNorm2
import Derived.Test.YtinjldagfhbioaaGreatDoorOne
namespace Go.Proofs.YtinjldagfhbioaaGreatDoor

/-- A text's runes, taken apart. -/
def rn4 (s : ByteArray) : List Int := nD (Dec.decT s.size s).1
/-- Whether a text is one of chapter 4's. -/
def ok4 (s : ByteArray) : Bool := decide (s.size ≤ 200 ∧ (rn4 s).length ≤ 200)
end Go.Proofs.YtinjldagfhbioaaGreatDoor
