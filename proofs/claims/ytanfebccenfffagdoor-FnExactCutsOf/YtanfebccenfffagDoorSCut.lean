/- Contract of the specification's CutsOf. -/
import Derived.Test.YtanfebccenfffagDoorSCut5
import Derived.Test.YtanfebccenfffagDoorSRunes4
namespace Go.Proofs.YtanfebccenfffagDoor
open Go.RowKit

/-- What CutsOf answers. -/
def cutA (s : ByteArray) : List Int := if ok4 s = true then cutsL s else []

set_option maxRecDepth 100000 in
set_option maxHeartbeats 1000000 in
theorem specCut_any (s : ByteArray) (w : World) (hs : s.size ≤ 1048576) :
    Calls Tryd.prog 11 #[.string s] w fun e w' => ∃ v, e = .returned (.tuple #[v, .bool (ok4 s)]) ∧ Ints w' w.heap.size v (cutA s) ∧ Below w.heap.size w w' := by
  have R := runes4_any s w (by omega)
  have C := fun u => cuts5_any s u hs
  unfold cutA
  generalize ok4 s = ok at *
  cases ok
  · rw [if_neg (by simp)]
    go_enter Tryd.func11, Tryd.ntmps11
    go_wp2_with fail
    refine R.mono ?_
    rintro e w1 ⟨v1, rfl, _, b1⟩
    clear R C
    go_wp2
    go_ret2
    exact ⟨_, rfl, ⟨rfl, .inl ⟨rfl, rfl⟩⟩, b1⟩
  · rw [if_pos rfl]
    go_enter Tryd.func11, Tryd.ntmps11
    go_wp2_with fail
    refine R.mono ?_
    rintro e w1 ⟨v1, rfl, _, b1⟩
    clear R
    go_wp2_with fail
    refine (C _).mono ?_
    rintro e w2 ⟨v2, rfl, i2, b2⟩
    clear C
    go_wp2
    go_ret2
    exact ⟨_, rfl, ints_low2 i2 b1.size, b1.trans (b2.mono b1.size)⟩
end Go.Proofs.YtanfebccenfffagDoor
