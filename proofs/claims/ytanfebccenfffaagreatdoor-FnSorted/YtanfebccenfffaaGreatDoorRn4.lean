/- A text's runes, taken apart, without memory. -/
import Derived.Test.YtanfebccenfffaaGreatDoorNorm2
import Derived.Test.YtanfebccenfffaaGreatDoorOne
namespace Go.Proofs.YtanfebccenfffaaGreatDoor

/-- A text's runes, taken apart. -/
def rn4 (s : ByteArray) : List Int := nD (Dec.decT s.size s).1
/-- Whether a text is one of chapter 4's. -/
def ok4 (s : ByteArray) : Bool := decide (s.size ≤ 200 ∧ (rn4 s).length ≤ 200)
end Go.Proofs.YtanfebccenfffaaGreatDoor
