/- Contracts of the specification's ClassOf and l2Good. -/
import Derived.Test.YtinjldagfhbioaaGreatDoorGood
import Derived.Test.YtinjldagfhbioaaGreatDoorNorm
import Derived.Test.YtinjldagfhbioaaGreatDoorInts
import Derived.BigQuiet
import Derived.Deep.QuietTactic
namespace Go.Proofs.YtinjldagfhbioaaGreatDoor
open Go.RowKit

theorem ret_i {a b : Int} (h : a = b) : Ending.returned (.int .i64 a) = .returned (.int .i64 b) := by rw [h]

set_option maxRecDepth 100000 in
set_option maxHeartbeats 2000000 in
theorem specClass_any (r : Int) (w : World) : Calls Tryz.prog 44 #[.int .i64 r] w fun e w' => e = .returned (.int .i64 (cls r)) ∧ w' = w := by
  go_enter Tryz.func44, Tryz.ntmps44
  go_wp2
  all_goals
    go_ret
    refine ⟨ret_i ?_, rfl⟩
    simp only [beq_iff_eq, beq_eq_false_iff_ne, ne_eq] at *
    simp [cls, *]

/-- Good runes, at most 200. -/
def okR (zs : List Int) : Bool := decide (zs.length ≤ 200 ∧ ∀ x ∈ zs, goodB x = true)

theorem okR_true {zs : List Int} (h : okR zs = true) : zs.length ≤ 200 ∧ ∀ x ∈ zs, goodB x = true := of_decide_eq_true h

def UpTo (zs : List Int) (k : Nat) : Prop := ∀ j x, j < k → zs[j]? = some x → goodB x = true

theorem UpTo.succ {zs : List Int} {k : Nat} {x : Int} (h : UpTo zs k) (hx : zs[k]? = some x) (hg : goodB x = true) : UpTo zs (k + 1) := by
  intro j y hj hy
  by_cases e : j = k
  · subst e; rw [hx] at hy; cases hy; exact hg
  · exact h j y (by omega) hy

theorem UpTo.all {zs : List Int} {k : Nat} (h : UpTo zs k) (hk : ¬ k < zs.length) : ∀ x ∈ zs, goodB x = true := by
  intro x hx
  obtain ⟨j, hj⟩ := List.mem_iff_getElem?.1 hx
  have := (List.getElem?_eq_some_iff.1 hj).1
  exact h j x (by omega) hj

set_option maxRecDepth 100000 in
set_option maxHeartbeats 1000000 in
theorem good_none (w : World) (a : Option Addr) (c : Nat) : Calls Tryz.prog 63 #[.slice a 0 c] w fun e w' => e = .returned (.bool true) ∧ w' = w := by
  go_enter Tryz.func63, Tryz.ntmps63
  go_wp2
  go_loop [7] (fun i => i = .int .i64 0) (fun _ => 0)
  case atStart => rfl
  case round =>
    subst hrel
    go_wp2
    go_ret
    exact ⟨rfl, rfl⟩

set_option maxRecDepth 100000 in
set_option maxHeartbeats 1000000 in
theorem good_row (w : World) (g cap : Nat) (zs : List Int) (hz : zs.length ≤ 1048576)
    (hc : ∀ j, j < zs.length → w.cell? ⟨g, j, none⟩ = some (.int .i64 (zs[j]?.getD 0))) :
    Calls Tryz.prog 63 #[.slice (some ⟨g, 0, none⟩) zs.length cap] w fun e w' => e = .returned (.bool (okR zs)) ∧ w' = w := by
  go_enter Tryz.func63, Tryz.ntmps63
  go_wp2
  go_loop [7] (fun i => ∃ k : Nat, k ≤ zs.length ∧ i = .int .i64 k ∧ Hid (UpTo zs k)) (fun i => zs.length - (intOf i).toNat)
  case atStart => exact ⟨0, Nat.zero_le _, rfl, fun j x hj => by omega⟩
  case round =>
    obtain ⟨k, hk, rfl, HG⟩ := hrel
    by_cases hlt : k < zs.length
    · obtain ⟨x, hx⟩ : ∃ x, zs[k]? = some x := ⟨_, List.getElem?_eq_getElem hlt⟩
      have c0 := hc k hlt
      rw [hx] at c0
      have c1 : w.cell? ⟨g, k, none⟩ = some (.int .i64 x) := c0
      cases hgx : goodB x
      · have P := fun w => specGood_no x hgx w
        have HN : Hid (false = okR zs) := by
          refine (decide_eq_false fun h => ?_).symm
          have := h.2 x (List.mem_of_getElem? hx)
          rw [hgx] at this; cases this
        clear hc c0 hx hgx
        go_wp2_with (go_at_call 84; refine (P _).mono ?_; rintro e w1 ⟨rfl, rfl⟩)
        go_ret
        exact ⟨ret_b HN.out, rfl⟩
      · have P := fun w => specGood_yes x hgx w
        have HG2 : Hid (UpTo zs (k + 1)) := HG.out.succ hx hgx
        clear hc c0 hx hgx
        go_wp2_with (go_at_call 84; refine (P _).mono ?_; rintro e w1 ⟨rfl, rfl⟩)
        exact ⟨⟨k + 1, by omega, by go_num, HG2⟩, by simp [intOf]; omega⟩
    · have HA := HG.out.all hlt
      have HY : Hid (decide ((zs.length : Int) ≤ 200) = okR zs) := by
        show _ = _
        unfold okR
        by_cases c : zs.length ≤ 200
        · rw [show decide (zs.length ≤ 200 ∧ ∀ x ∈ zs, goodB x = true) = true from decide_eq_true ⟨c, HA⟩]; simp; omega
        · rw [show decide (zs.length ≤ 200 ∧ ∀ x ∈ zs, goodB x = true) = false from decide_eq_false (fun h => c h.1)]; simp; omega
      clear hc HA
      go_wp2
      go_ret
      exact ⟨ret_b HY.out, rfl⟩

theorem good_any {w : World} {B : Nat} {v : Value} {zs : List Int} (hz : zs.length ≤ 1048576) (hI : Ints w B v zs) :
    Calls Tryz.prog 63 #[v] w fun e w' => e = .returned (.bool (okR zs)) ∧ w' = w := by
  rcases hI.form with ⟨rfl, rfl⟩ | ⟨g, cap, rfl, h1, h2⟩
  · have : okR [] = true := decide_eq_true ⟨by simp, by simp⟩
    rw [this]
    exact good_none w _ _
  · exact good_row w g cap zs hz (fun j hj => hI.cell j hj)
end Go.Proofs.YtinjldagfhbioaaGreatDoor
