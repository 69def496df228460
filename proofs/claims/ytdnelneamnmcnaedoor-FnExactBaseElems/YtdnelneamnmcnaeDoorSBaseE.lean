/- Contract of the specification's BaseElems. -/
import Derived.Test.YtdnelneamnmcnaeDoorSBase
namespace Go.Proofs.YtdnelneamnmcnaeDoor
open Go.RowKit

def baseG (r : Int) : List El := if goodB r = true then base r else []

set_option maxRecDepth 100000 in
set_option maxHeartbeats 1000000 in
theorem specBaseElems_any (r : Int) (w : World) : Calls Tryd.prog 14 #[.int .i64 r] w fun e w' => ∃ v, e = .returned (.tuple #[v, .bool (goodB r)]) ∧ Elems w' w.heap.size v (baseG r) ∧ Below w.heap.size w w' := by
  unfold baseG
  cases hg : goodB r
  · have P := fun w => specGood_no r hg w
    rw [if_neg (by simp)]
    clear hg
    go_enter Tryd.func14, Tryd.ntmps14
    go_wp2_with fail
    refine (P _).mono ?_
    rintro e w1 ⟨rfl, rfl⟩
    go_wp2
    go_ret2
    exact ⟨_, rfl, ⟨rfl, .inl ⟨rfl, rfl⟩⟩, Below.refl _ _⟩
  · have P := fun w => specGood_yes r hg w
    have hgr := goodB_true hg
    have A := fun w => specBase_any r hgr.1 hgr.2.1 w
    rw [if_pos rfl]
    clear hg
    go_enter Tryd.func14, Tryd.ntmps14
    go_wp2_with fail
    refine (P _).mono ?_
    rintro e w1 ⟨rfl, rfl⟩
    go_wp2_with fail
    refine (A _).mono ?_
    rintro e w2 ⟨v, rfl, hI, hb⟩
    go_wp2
    go_ret2
    exact ⟨_, rfl, hI, hb⟩
end Go.Proofs.YtdnelneamnmcnaeDoor
