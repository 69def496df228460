/- How two texts stand to each other, without memory. -/
import Derived.Test.YtanfebccenfffaaGreatDoorOkE
import Derived.Test.YtanfebccenfffaaGreatDoorPSort4
namespace Go.Proofs.YtanfebccenfffaaGreatDoor

def cmpT (es : List Ent) (sh : Bool) (lv : Int) (x y : ByteArray) : Int := if (okE es lv x && okE es lv y) = true then cmpS (keyT es sh lv x) (keyT es sh lv y) else 0
end Go.Proofs.YtanfebccenfffaaGreatDoor
