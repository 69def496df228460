/- Contract of the specification's SortMarks. -/
import Derived.Test.YtlhpkjhinikmmadDoorISortM
namespace Go.Proofs.YtlhpkjhinikmmadDoor
open Go.RowKit

set_option maxRecDepth 100000 in
set_option maxHeartbeats 1000000 in
theorem specSort_any {w : World} {B : Nat} {v : Value} {zs : List Int} (hz : zs.length ≤ 1048576) (hI : Ints w B v zs) :
    Calls Tryd.prog 18 #[v] w fun e w' => ∃ v', e = .returned (.tuple #[v', .bool (okR zs)]) ∧ Ints w' w.heap.size v' (sortA zs) ∧ Below w.heap.size w w' := by
  have G := good_any hz hI
  have R := sort_any hz hI
  unfold sortA
  cases hok : okR zs
  · rw [hok] at G
    rw [if_neg (by simp)]
    clear hI R hok
    go_enter Tryd.func18, Tryd.ntmps18
    go_wp2_with fail
    refine G.mono ?_
    rintro e w1 ⟨rfl, rfl⟩
    clear G
    go_wp2
    go_ret2
    exact ⟨_, rfl, ⟨rfl, .inl ⟨rfl, rfl⟩⟩, Below.refl _ _⟩
  · rw [hok] at G
    rw [if_pos rfl]
    clear hok hI
    go_enter Tryd.func18, Tryd.ntmps18
    go_wp2_with fail
    refine G.mono ?_
    rintro e w1 ⟨rfl, rfl⟩
    clear G
    go_wp2_with fail
    refine R.mono ?_
    rintro e w2 ⟨v', rfl, h2, h3⟩
    clear R
    go_wp2
    go_ret2
    exact ⟨_, rfl, h2, h3⟩
end Go.Proofs.YtlhpkjhinikmmadDoor
