/- Contracts of the program's DecodeText. -/
import Derived.Test.YtanfebccenfffagDoorRead
import Derived.WalkKit
namespace Go.Proofs.YtanfebccenfffagDoor
open Go.RowKit

set_option maxRecDepth 100000 in
set_option maxHeartbeats 1000000 in
theorem implDecode_any (s : ByteArray) (w : World) (hs : s.size ≤ 200) :
    Calls Tryd.prog 42 #[.string s] w fun e w' => ∃ v, e = .returned (.tuple #[v, .bool true]) ∧ Ints w' w.heap.size v (Dec.decT s.size s).1 ∧ Below w.heap.size w w' := by
  have D := fun w => readText_any s w (by omega)
  go_enter Tryd.func42, Tryd.ntmps42
  go_wp2_with (go_at_call 60; refine (D _).mono ?_; rintro e w' ⟨v, rfl, hI, hb⟩)
  go_ret2
  exact ⟨_, rfl, hI, hb⟩

set_option maxRecDepth 100000 in
set_option maxHeartbeats 1000000 in
theorem implDecode_no (s : ByteArray) (w : World) (hs : 200 < s.size) (hm : s.size ≤ 1048576) :
    Calls Tryd.prog 42 #[.string s] w fun e w' => e = .returned (.tuple #[.slice none 0 0, .bool false]) ∧ w' = w := by
  go_enter Tryd.func42, Tryd.ntmps42
  go_wp2
  go_ret2
  exact ⟨rfl, rfl⟩
end Go.Proofs.YtanfebccenfffagDoor
