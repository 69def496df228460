/- Contract of the program's IsNormalD. -/
import Derived.Test.YtddelohmppdndaaGreatDoorPIs
import Derived.Test.YtddelohmppdndaaGreatDoorIFull
import Derived.Test.YtddelohmppdndaaGreatDoorEqual2
namespace Go.Proofs.YtddelohmppdndaaGreatDoor
open Go.RowKit

set_option maxRecDepth 100000 in
set_option maxHeartbeats 1000000 in
theorem implIsN_any {w : World} {B : Nat} {v : Value} {zs : List Int} (hz : zs.length ≤ 1048576) (hI : Ints w B v zs) (hm : Held w 0 marksF) (hc : Held w 1 capF) (ho : Held w 2 othF) :
    Calls Tryz.prog 102 #[v] w fun e w' => e = .returned (.tuple #[.bool (isD zs), .bool (okR zs)]) ∧ Below w.heap.size w w' := by
  have D := fullD_any hI hm hc ho
  have hbd := fullA_len zs
  unfold isD
  clear hm hc ho
  cases hok : okR zs
  · rw [hok] at D
    clear hI hok hbd
    go_enter Tryz.func102, Tryz.ntmps102
    go_wp2_with fail
    refine D.mono ?_
    rintro e w1 ⟨v1, rfl, h1, h2⟩
    clear D
    go_wp2
    go_ret2
    exact ⟨rfl, h2⟩
  · unfold fullA at D hbd
    rw [hok, if_pos rfl] at D
    rw [hok, if_pos rfl] at hbd
    clear hok
    generalize nD zs = ds at *
    go_enter Tryz.func102, Tryz.ntmps102
    go_wp2_with fail
    refine D.mono ?_
    rintro e w1 ⟨v1, rfl, h1, h2⟩
    have E := equal_any (by omega) hz h1 (hI.below h2)
    clear D
    go_wp2_with fail
    refine E.mono ?_
    rintro e w2 ⟨rfl, n2, rfl⟩
    clear E
    go_wp2
    go_ret2
    exact ⟨rfl, below_drewN h2 n2⟩
end Go.Proofs.YtddelohmppdndaaGreatDoor
