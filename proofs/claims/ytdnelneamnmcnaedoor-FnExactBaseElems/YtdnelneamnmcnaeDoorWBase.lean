/- The walk of the law FnExactBaseElems, from the program's contract (a hypothesis of the walk: what its BaseElems answers in every world that holds its tables). -/
import Derived.Test.YtdnelneamnmcnaeDoorSBaseE
import Derived.Test.YtdnelneamnmcnaeDoorMarkE
namespace Go.Proofs.YtdnelneamnmcnaeDoor
open Go.RowKit

theorem elems_apart {w w' : World} {B B' : Nat} {v v' : Value} {es es' : List El} (h : Elems w B v es) (h' : Elems w' B' v' es') (hB : w.heap.size ≤ B') : v.ownBlock = none ∨ v.ownBlock ≠ v'.ownBlock := by
  cases c : v.ownBlock with
  | none => exact .inl rfl
  | some k =>
    refine .inr fun e => ?_
    have l1 := (World.ownsRow.lt h k c).2
    have l2 := (World.ownsRow.lt h' k e.symm).1
    omega

theorem Elems.drewN {w : World} {B : Nat} {v : Value} {es : List El} (h : Elems w B v es) (n : Nat) : Elems (w.drewN n) B v es := h

theorem baseG_len (r : Int) : (baseG r).length ≤ 2 := by
  unfold baseG
  split
  · exact base_len r
  · simp

set_option maxRecDepth 100000 in
set_option maxHeartbeats 4000000 in
theorem baseElems_walk (a0 : Int) (w : World)
    (I : ∀ u, Below w.heap.size w u → Calls Tryd.prog 15 #[.int .i64 a0] u fun e w' => ∃ v, e = .returned (.tuple #[v, .bool (goodB a0)]) ∧ Elems w' u.heap.size v (baseG a0) ∧ Below u.heap.size u w') :
    Calls Tryd.prog 5 #[.int .i64 a0] w fun e w' => e = .returned (.bool true) ∧ Below w.heap.size w w' := by
  have A := specBaseElems_any a0 w
  have hl := baseG_len a0
  have HI : Hid _ := I
  generalize baseG a0 = es at *
  generalize goodB a0 = ok at *
  clear I
  go_enter Tryd.func5, Tryd.ntmps5
  go_wp2_with fail
  refine A.mono ?_
  rintro e w1 ⟨v1, rfl, i1, b1⟩
  clear A
  go_wp2_with fail
  refine (HI.out _ b1).mono ?_
  rintro e w2 ⟨v2, rfl, i2, b2⟩
  have c2 := b1.trans (b2.mono b1.size)
  have j1 := i1.below b2
  go_wp2_with fail
  refine (eqE_any (by omega) i2 j1).mono ?_
  rintro e w3 ⟨rfl, b3⟩
  have c3 := c2.trans (b3.mono c2.size)
  have j13 := j1.below b3
  have j23 := i2.below b3
  go_wp2_with fail
  refine (markE_any (by omega) (by omega) (by omega) j23).mono ?_
  rintro e w4 ⟨rfl, i4, g4⟩
  have k1 : Elems w4 w.heap.size v1 es := World.ownsRow.kept j13 g4 (elems_apart i1 i2 (Nat.le_refl _))
  have c4 : Below w.heap.size w w4 := Below.grown c3 g4 c3.size (fun j hj => Nat.le_trans b1.size (World.ownsRow.lt i2 j hj).1)
  have hq8 : ¬ (1 + 4 * (es.length : Int) < 0) := by omega
  go_wp2_with fail
  refine (heldE_any (by omega) (by omega) (by omega) i4).mono ?_
  rintro e w5 ⟨rfl, rfl⟩
  go_wp2_with fail
  refine (HI.out _ c4).mono ?_
  rintro e w6 ⟨v6, rfl, i6, b6⟩
  have c6 := c4.trans (b6.mono c4.size)
  have k6 := k1.below b6
  have i46 := i4.below b6
  go_wp2_with fail
  refine (eqE_any (by omega) i6 k6).mono ?_
  rintro e w7 ⟨rfl, b7⟩
  have c7 := c6.trans (b7.mono c6.size)
  go_wp2_with fail
  refine (heldE_any (by omega) (by omega) (by omega) (i46.below b7)).mono ?_
  rintro e w8 ⟨rfl, rfl⟩
  clear HI
  go_wp2
  go_ret
  exact ⟨rfl, c7⟩
end Go.Proofs.YtdnelneamnmcnaeDoor
