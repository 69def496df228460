/- Contract of the program's goodRunes. -/
import Derived.Test.YtddelohmppdndaaGreatDoorISort2
namespace Go.Proofs.YtddelohmppdndaaGreatDoor
open Go.RowKit

theorem okR_long {zs : List Int} (h : 200 < zs.length) : okR zs = false := decide_eq_false fun c => by omega
theorem okR_bad {zs : List Int} {x : Int} (hx : x ∈ zs) (h : goodB x = false) : okR zs = false := decide_eq_false fun c => by
  have := c.2 x hx
  rw [h] at this; cases this

set_option maxRecDepth 100000 in
set_option maxHeartbeats 1000000 in
theorem goods_none (w : World) (a : Option Addr) (c : Nat) : Calls Tryz.prog 88 #[.slice a 0 c] w fun e w' => e = .returned (.bool true) ∧ w' = w := by
  go_enter Tryz.func88, Tryz.ntmps88
  go_wp2
  go_loop [10] (fun i => i = .int .i64 0) (fun _ => 0)
  case atStart => rfl
  case round =>
    subst hrel
    go_wp2
    go_ret
    exact ⟨rfl, rfl⟩

set_option maxRecDepth 100000 in
set_option maxHeartbeats 1000000 in
theorem goods_long (w : World) (a : Option Addr) (n c : Nat) (h : 200 < n) : Calls Tryz.prog 88 #[.slice a n c] w fun e w' => e = .returned (.bool false) ∧ w' = w := by
  have h2 : (200 : Int) < (n : Int) := by omega
  go_enter Tryz.func88, Tryz.ntmps88
  go_wp2
  go_ret
  exact ⟨rfl, rfl⟩

set_option maxRecDepth 100000 in
set_option maxHeartbeats 1000000 in
theorem goods_row (w : World) (g cap : Nat) (zs : List Int) (hz : zs.length ≤ 200)
    (hc : ∀ j, j < zs.length → w.cell? ⟨g, j, none⟩ = some (.int .i64 (zs[j]?.getD 0))) :
    Calls Tryz.prog 88 #[.slice (some ⟨g, 0, none⟩) zs.length cap] w fun e w' => e = .returned (.bool (okR zs)) ∧ w' = w := by
  have hz2 : ¬ (200 : Int) < (zs.length : Int) := by omega
  go_enter Tryz.func88, Tryz.ntmps88
  go_wp2
  go_loop [10] (fun i => ∃ k : Nat, k ≤ zs.length ∧ i = .int .i64 k ∧ Hid (UpTo zs k)) (fun i => zs.length - (intOf i).toNat)
  case atStart => exact ⟨0, Nat.zero_le _, rfl, fun j x hj => by omega⟩
  case round =>
    obtain ⟨k, hk, rfl, HG⟩ := hrel
    by_cases hlt : k < zs.length
    · obtain ⟨x, hx⟩ : ∃ x, zs[k]? = some x := ⟨_, List.getElem?_eq_getElem hlt⟩
      have c0 := hc k hlt
      rw [hx] at c0
      have c1 : w.cell? ⟨g, k, none⟩ = some (.int .i64 x) := c0
      cases hgx : goodB x
      · have P := fun w => implGood_no x hgx w
        have HN : Hid (false = okR zs) := (okR_bad (List.mem_of_getElem? hx) hgx).symm
        clear hc c0 hx hgx
        go_wp2_with (go_at_call 99; refine (P _).mono ?_; rintro e w1 ⟨rfl, rfl⟩)
        go_ret
        exact ⟨ret_b HN.out, rfl⟩
      · have P := fun w => implGood_yes x hgx w
        have HG2 : Hid (UpTo zs (k + 1)) := HG.out.succ hx hgx
        clear hc c0 hx hgx
        go_wp2_with (go_at_call 99; refine (P _).mono ?_; rintro e w1 ⟨rfl, rfl⟩)
        exact ⟨⟨k + 1, by omega, by go_num, HG2⟩, by simp [intOf]; omega⟩
    · have HA := HG.out.all hlt
      have HY : Hid (true = okR zs) := (decide_eq_true (⟨hz, HA⟩ : zs.length ≤ 200 ∧ ∀ x ∈ zs, goodB x = true)).symm
      clear hc HA
      go_wp2
      go_ret
      exact ⟨ret_b HY.out, rfl⟩

theorem goods_any {w : World} {B : Nat} {v : Value} {zs : List Int} (hI : Ints w B v zs) :
    Calls Tryz.prog 88 #[v] w fun e w' => e = .returned (.bool (okR zs)) ∧ w' = w := by
  rcases hI.form with ⟨rfl, rfl⟩ | ⟨g, cap, rfl, h1, h2⟩
  · have : okR [] = true := decide_eq_true ⟨by simp, by simp⟩
    rw [this]
    exact goods_none w _ _
  · by_cases h : zs.length ≤ 200
    · exact goods_row w g cap zs h (fun j hj => hI.cell j hj)
    · rw [okR_long (by omega)]
      exact goods_long w _ _ _ (by omega)

end Go.Proofs.YtddelohmppdndaaGreatDoor
