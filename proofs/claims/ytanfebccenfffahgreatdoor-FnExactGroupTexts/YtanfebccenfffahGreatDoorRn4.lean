/- A text's runes, taken apart, without memory. -/
import Derived.Test.YtanfebccenfffahGreatDoorNorm2
import Derived.Test.YtanfebccenfffahGreatDoorOne
namespace Go.Proofs.YtanfebccenfffahGreatDoor

/-- A text's runes, taken apart. -/
def rn4 (s : ByteArray) : List Int := nD (Dec.decT s.size s).1
/-- Whether a text is one of chapter 4's. -/
def ok4 (s : ByteArray) : Bool := decide (s.size ≤ 200 ∧ (rn4 s).length ≤ 200)
end Go.Proofs.YtanfebccenfffahGreatDoor
