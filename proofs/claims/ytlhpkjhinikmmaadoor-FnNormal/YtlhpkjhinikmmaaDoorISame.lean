/- Contracts of the program's IsNormalD and SameRunes (where NormalD answers). -/
import Derived.Test.YtlhpkjhinikmmaaDoorINormC
import Derived.Test.YtlhpkjhinikmmaaDoorEqual2
namespace Go.Proofs.YtlhpkjhinikmmaaDoor
open Go.RowKit

set_option maxRecDepth 100000 in
set_option maxHeartbeats 1000000 in
theorem implIs_any {w : World} {B : Nat} {v : Value} {zs : List Int} (hz : zs.length ≤ 1048576) (hI : Ints w B v zs) (hm : Held w 2 marksF) (hc : Held w 0 capF) (ho : Held w 1 othF) (hok : okD zs = true) :
    Calls Tryd.prog 10 #[v] w fun e w' => e = .returned (.tuple #[.bool (decide (nD zs = zs)), .bool true]) ∧ Below w.heap.size w w' := by
  have D := fullD_any hI hm hc ho
  unfold fullA at D
  rw [okD_okR hok, if_pos rfl] at D
  have hbd := nD_bound (okD_okR hok)
  clear hok hm hc ho
  go_enter Tryd.func10, Tryd.ntmps10
  go_wp2_with fail
  refine D.mono ?_
  rintro e w1 ⟨v1, rfl, h1, h2⟩
  have E := equal_any (by omega) hz h1 (hI.below h2)
  clear D
  go_wp2_with fail
  refine E.mono ?_
  rintro e w2 ⟨rfl, n2, rfl⟩
  clear E
  go_wp2
  go_ret2
  exact ⟨rfl, below_drewN h2 n2⟩

set_option maxRecDepth 100000 in
set_option maxHeartbeats 1000000 in
theorem implSame_any {w : World} {B B' : Nat} {v v' : Value} {zs ys : List Int} (_hz : zs.length ≤ 1048576) (_hy : ys.length ≤ 1048576) (hI : Ints w B v zs) (hJ : Ints w B' v' ys) (hm : Held w 2 marksF) (hc : Held w 0 capF) (ho : Held w 1 othF) (hok : okD zs = true) (hok2 : okD ys = true) :
    Calls Tryd.prog 12 #[v, v'] w fun e w' => e = .returned (.tuple #[.bool (decide (nD zs = nD ys)), .bool true]) ∧ Below w.heap.size w w' := by
  have D := fullD_any hI hm hc ho
  unfold fullA at D
  rw [okD_okR hok, if_pos rfl] at D
  have D2 := fun (u : World) (hb : Below w.heap.size w u) => fullD_any (hJ.below hb) (hm.below hb hm.lt) (hc.below hb hc.lt) (ho.below hb ho.lt)
  unfold fullA at D2
  rw [okD_okR hok2, if_pos rfl] at D2
  have hbd := nD_bound (okD_okR hok)
  have hbd2 := nD_bound (okD_okR hok2)
  clear hok hok2 hm hc ho
  go_enter Tryd.func12, Tryd.ntmps12
  go_wp2_with fail
  refine D.mono ?_
  rintro e w1 ⟨v1, rfl, h1, h2⟩
  clear D
  go_wp2_with fail
  refine (D2 _ h2).mono ?_
  rintro e w2 ⟨v2, rfl, h3, h4⟩
  have E := equal_any (by omega) (by omega) (h1.below h4) h3
  clear D2
  go_wp2_with fail
  refine E.mono ?_
  rintro e w3 ⟨rfl, n3, rfl⟩
  clear E
  go_wp2
  go_ret2
  exact ⟨rfl, below_drewN (h2.trans (h4.mono h2.size)) n3⟩
end Go.Proofs.YtlhpkjhinikmmaaDoor
