/- Contract of the program's BaseElems. -/
import Derived.Test.YtdnelneamnmcnaeDoorIBase
import Derived.Test.YtdnelneamnmcnaeDoorWBase
namespace Go.Proofs.YtdnelneamnmcnaeDoor
open Go.RowKit

set_option maxRecDepth 100000 in
set_option maxHeartbeats 4000000 in
theorem implBaseE_no (r : Int) (h : goodB r = false) (w : World) :
    Calls Tryd.prog 15 #[.int .i64 r] w fun e w' => ∃ v, e = .returned (.tuple #[v, .bool false]) ∧ Elems w' w.heap.size v [] ∧ Below w.heap.size w w' := by
  have G := fun w => implGood_no r h w
  clear h
  go_enter Tryd.func15, Tryd.ntmps15
  go_wp2_with fail
  refine (G _).mono ?_
  rintro e w1 ⟨rfl, rfl⟩
  clear G
  go_wp2
  go_ret2
  exact ⟨_, rfl, ⟨rfl, .inl ⟨rfl, rfl⟩⟩, Below.refl _ _⟩

set_option maxRecDepth 100000 in
set_option maxHeartbeats 4000000 in
theorem implBaseE_yes (r : Int) (h : goodB r = true) (w : World) (hm : Held w 0 marksF) :
    Calls Tryd.prog 15 #[.int .i64 r] w fun e w' => ∃ v, e = .returned (.tuple #[v, .bool true]) ∧ Elems w' w.heap.size v (base r) ∧ Below w.heap.size w w' := by
  have G := fun w => implGood_yes r h w
  obtain ⟨g0, g1, g2⟩ := goodB_true h
  have W := weight_any r g0 g1 (by omega) w hm
  clear hm h g0 g1 g2
  rcases base_cases r with hb | ⟨e, hb⟩ | ⟨e, f, hb⟩
  · rw [hb] at W ⊢
    unfold wtV at W
    have mt : ∀ (k : Nat) (w : World), (method (k + 1) 86 (.agg #[]) "loop.example/g00158/impl.elems").run Tryd.prog w = .ok (135, .agg #[]) w := fun _ _ => by kernel_rfl
    clear hb
    go_enter Tryd.func15, Tryd.ntmps15
    go_wp2_with fail
    refine (G _).mono ?_
    rintro e' w1 ⟨rfl, rfl⟩
    clear G
    go_wp2_with fail
    refine W.mono ?_
    rintro e' w2 ⟨rfl, b2⟩
    clear W
    go_wp2
    go_ret2
    exact ⟨_, rfl, ⟨rfl, .inl ⟨rfl, rfl⟩⟩, b2.alloc b2.size _⟩
  · rw [hb] at W ⊢
    unfold wtV at W
    have mt : ∀ (k : Nat) (w : World), (method (k + 1) 89 (.agg #[.int .i64 e.first, .int .i64 e.second, .int .i64 e.third, .bool e.varies]) "loop.example/g00158/impl.elems").run Tryd.prog w = .ok (136, .agg #[.int .i64 e.first, .int .i64 e.second, .int .i64 e.third, .bool e.varies]) w := fun _ _ => by kernel_rfl
    clear hb
    go_enter Tryd.func15, Tryd.ntmps15
    go_wp2_with fail
    refine (G _).mono ?_
    rintro e' w1 ⟨rfl, rfl⟩
    clear G
    go_wp2_with fail
    refine W.mono ?_
    rintro e' w2 ⟨rfl, b2⟩
    clear W
    go_wp2
    go_ret2
    exact ⟨_, rfl, elems_block [e] rfl rfl (heap_alloc2_new w2 _ _) (by have := b2.size; omega) (by unfold maxLen; omega), (b2.alloc b2.size _).alloc (b2.alloc b2.size _).size _⟩
  · rw [hb] at W ⊢
    unfold wtV at W
    have mt : ∀ (k : Nat) (w : World), (method (k + 1) 95 (.agg #[.int .i64 e.first, .int .i64 e.second, .int .i64 e.third, .bool e.varies, .int .i64 f.first, .int .i64 f.second, .int .i64 f.third, .bool f.varies]) "loop.example/g00158/impl.elems").run Tryd.prog w = .ok (137, .agg #[.int .i64 e.first, .int .i64 e.second, .int .i64 e.third, .bool e.varies, .int .i64 f.first, .int .i64 f.second, .int .i64 f.third, .bool f.varies]) w := fun _ _ => by kernel_rfl
    clear hb
    go_enter Tryd.func15, Tryd.ntmps15
    go_wp2_with fail
    refine (G _).mono ?_
    rintro e' w1 ⟨rfl, rfl⟩
    clear G
    go_wp2_with fail
    refine W.mono ?_
    rintro e' w2 ⟨rfl, b2⟩
    clear W
    go_wp2
    go_ret2
    exact ⟨_, rfl, elems_block [e, f] rfl rfl (heap_alloc2_new w2 _ _) (by have := b2.size; omega) (by unfold maxLen; omega), (b2.alloc b2.size _).alloc (b2.alloc b2.size _).size _⟩

theorem implBaseE_any (r : Int) (w : World) (hm : Held w 0 marksF) :
    Calls Tryd.prog 15 #[.int .i64 r] w fun e w' => ∃ v, e = .returned (.tuple #[v, .bool (goodB r)]) ∧ Elems w' w.heap.size v (baseG r) ∧ Below w.heap.size w w' := by
  cases h : goodB r
  · have e : baseG r = [] := by unfold baseG; rw [h]; rfl
    rw [e]
    exact implBaseE_no r h w
  · have e : baseG r = base r := by unfold baseG; rw [h]; rfl
    rw [e]
    exact implBaseE_yes r h w hm
end Go.Proofs.YtdnelneamnmcnaeDoor
