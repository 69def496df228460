/- Contracts of GoodRune, of both sides. -/
import Derived.Test.YtinjldagfhbioaaGreatDoorGoodP
import Derived.WalkKit
import Derived.WalkSpells
import Derived.WalkLawsBesides
namespace Go.Proofs.YtinjldagfhbioaaGreatDoor
open Go.RowKit

theorem goodB_true {r : Int} (h : goodB r = true) : 0 ≤ r ∧ r ≤ 1114111 ∧ (r < 55296 ∨ 57343 < r) := by
  have := of_decide_eq_true h; omega
theorem goodB_false {r : Int} (h : goodB r = false) : r < 0 ∨ 1114111 < r ∨ (0 ≤ r ∧ r ≤ 1114111 ∧ 55296 ≤ r ∧ r ≤ 57343) := by
  have := of_decide_eq_false h; omega

theorem ret_b {a b : Bool} (h : a = b) : Ending.returned (.bool a) = .returned (.bool b) := by rw [h]

set_option maxRecDepth 100000 in
set_option maxHeartbeats 1000000 in
theorem implGood_yes (r : Int) (h : goodB r = true) (w : World) :
    Calls Tryz.prog 100 #[.int .i64 r] w fun e w' => e = .returned (.bool true) ∧ w' = w := by
  obtain ⟨h1, h2, h3⟩ := goodB_true h
  clear h
  rcases h3 with h3 | h3
  all_goals
    go_enter Tryz.func100, Tryz.ntmps100
    go_wp2
    go_ret
    exact ⟨ret_b (by simp; try omega), rfl⟩

set_option maxRecDepth 100000 in
set_option maxHeartbeats 1000000 in
theorem implGood_no (r : Int) (h : goodB r = false) (w : World) :
    Calls Tryz.prog 100 #[.int .i64 r] w fun e w' => e = .returned (.bool false) ∧ w' = w := by
  rcases goodB_false h with h1 | h1 | ⟨h1, h2, h3, h4⟩
  all_goals
    clear h
    go_enter Tryz.func100, Tryz.ntmps100
    go_wp2
    go_ret
    exact ⟨ret_b (by simp; try omega), rfl⟩

set_option maxRecDepth 100000 in
set_option maxHeartbeats 1000000 in
theorem specGood_yes (r : Int) (h : goodB r = true) (w : World) :
    Calls Tryz.prog 84 #[.int .i64 r] w fun e w' => e = .returned (.bool true) ∧ w' = w := by
  obtain ⟨h1, h2, h3⟩ := goodB_true h
  clear h
  rcases h3 with h3 | h3
  all_goals
    go_enter Tryz.func84, Tryz.ntmps84
    go_wp2
    go_ret
    exact ⟨ret_b (by simp; try omega), rfl⟩

set_option maxRecDepth 100000 in
set_option maxHeartbeats 1000000 in
theorem specGood_no (r : Int) (h : goodB r = false) (w : World) :
    Calls Tryz.prog 84 #[.int .i64 r] w fun e w' => e = .returned (.bool false) ∧ w' = w := by
  rcases goodB_false h with h1 | h1 | ⟨h1, h2, h3, h4⟩
  all_goals
    clear h
    go_enter Tryz.func84, Tryz.ntmps84
    go_wp2
    go_ret
    exact ⟨ret_b (by simp; try omega), rfl⟩

end Go.Proofs.YtinjldagfhbioaaGreatDoor
