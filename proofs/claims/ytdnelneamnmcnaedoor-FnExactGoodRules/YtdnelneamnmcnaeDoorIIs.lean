/- Contracts of the program's IsNormalD and SameRunes. -/
import Derived.Test.YtdnelneamnmcnaeDoorSIs
import Derived.Test.YtdnelneamnmcnaeDoorIFull
import Derived.Test.YtdnelneamnmcnaeDoorEqual2
namespace Go.Proofs.YtdnelneamnmcnaeDoor
open Go.RowKit

set_option maxRecDepth 100000 in
set_option maxHeartbeats 1000000 in
theorem implIsN_any {w : World} {B : Nat} {v : Value} {zs : List Int} (hz : zs.length ≤ 1048576) (hI : Ints w B v zs) (hm : Held w 0 marksF) (hc : Held w 2 capF) (ho : Held w 3 othF) :
    Calls Tryd.prog 10 #[v] w fun e w' => e = .returned (.tuple #[.bool (isD zs), .bool (okR zs)]) ∧ Below w.heap.size w w' := by
  have D := fullD_any hI hm hc ho
  have hbd := fullA_len zs
  unfold isD
  clear hm hc ho
  cases hok : okR zs
  · rw [hok] at D
    clear hI hok hbd
    go_enter Tryd.func10, Tryd.ntmps10
    go_wp2_with fail
    refine D.mono ?_
    rintro e w1 ⟨v1, rfl, h1, h2⟩
    clear D
    go_wp2
    go_ret2
    exact ⟨rfl, h2⟩
  · unfold fullA at D hbd
    rw [hok, if_pos rfl] at D
    rw [hok, if_pos rfl] at hbd
    clear hok
    generalize nD zs = ds at *
    go_enter Tryd.func10, Tryd.ntmps10
    go_wp2_with fail
    refine D.mono ?_
    rintro e w1 ⟨v1, rfl, h1, h2⟩
    have E := equal_any (by omega) hz h1 (hI.below h2)
    clear D
    go_wp2_with fail
    refine E.mono ?_
    rintro e w2 ⟨rfl, n2, rfl⟩
    clear E
    go_wp2
    go_ret2
    exact ⟨rfl, below_drewN h2 n2⟩

set_option maxRecDepth 100000 in
set_option maxHeartbeats 1000000 in
theorem implSameN_any {w : World} {B B' : Nat} {v v' : Value} {zs ys : List Int} (_hz : zs.length ≤ 1048576) (_hy : ys.length ≤ 1048576) (hI : Ints w B v zs) (hJ : Ints w B' v' ys) (hm : Held w 0 marksF) (hc : Held w 2 capF) (ho : Held w 3 othF) :
    Calls Tryd.prog 13 #[v, v'] w fun e w' => e = .returned (.tuple #[.bool (sameD zs ys), .bool (okR zs && okR ys)]) ∧ Below w.heap.size w w' := by
  have D := fullD_any hI hm hc ho
  have D2 := fun (u : World) (hb : Below w.heap.size w u) => fullD_any (hJ.below hb) (hm.below hb hm.lt) (hc.below hb hc.lt) (ho.below hb ho.lt)
  have hbd := fullA_len zs
  have hbd2 := fullA_len ys
  unfold sameD
  clear hm hc ho hI hJ
  cases hok : okR zs
  · rw [hok] at D
    clear hok hbd hbd2
    generalize okR ys = oy at *
    go_enter Tryd.func13, Tryd.ntmps13
    go_wp2_with fail
    refine D.mono ?_
    rintro e w1 ⟨v1, rfl, h1, h2⟩
    clear D
    go_wp2_with fail
    refine (D2 _ h2).mono ?_
    rintro e w2 ⟨v2, rfl, h3, h4⟩
    clear D2
    go_wp2
    go_ret2
    exact ⟨rfl, h2.trans (h4.mono h2.size)⟩
  · cases hok2 : okR ys
    · rw [hok] at D
      rw [hok2] at D2
      clear hok hok2 hbd hbd2
      go_enter Tryd.func13, Tryd.ntmps13
      go_wp2_with fail
      refine D.mono ?_
      rintro e w1 ⟨v1, rfl, h1, h2⟩
      clear D
      go_wp2_with fail
      refine (D2 _ h2).mono ?_
      rintro e w2 ⟨v2, rfl, h3, h4⟩
      clear D2
      go_wp2
      go_ret2
      exact ⟨rfl, h2.trans (h4.mono h2.size)⟩
    · unfold fullA at D D2 hbd hbd2
      rw [hok, if_pos rfl] at D
      rw [hok2, if_pos rfl] at D2
      rw [hok, if_pos rfl] at hbd
      rw [hok2, if_pos rfl] at hbd2
      clear hok hok2
      generalize nD zs = ds at *
      generalize nD ys = es at *
      go_enter Tryd.func13, Tryd.ntmps13
      go_wp2_with fail
      refine D.mono ?_
      rintro e w1 ⟨v1, rfl, h1, h2⟩
      clear D
      go_wp2_with fail
      refine (D2 _ h2).mono ?_
      rintro e w2 ⟨v2, rfl, h3, h4⟩
      have E := equal_any (by omega) (by omega) (h1.below h4) h3
      clear D2
      go_wp2_with fail
      refine E.mono ?_
      rintro e w3 ⟨rfl, n3, rfl⟩
      clear E
      go_wp2
      go_ret2
      exact ⟨rfl, below_drewN (h2.trans (h4.mono h2.size)) n3⟩
end Go.Proofs.YtdnelneamnmcnaeDoor
