/- Contract of the program's NormalD. -/
import Derived.Test.YtanfebccenfffagDoorIFull
namespace Go.Proofs.YtanfebccenfffagDoor
open Go.RowKit

theorem okD_eq {zs : List Int} (h : okR zs = true) : okD zs = decide ((nD zs).length ≤ 200) := by
  unfold okD
  rw [h, Bool.true_and, nD_len]

set_option maxRecDepth 100000 in
set_option maxHeartbeats 2000000 in
theorem implD_any {w : World} {B : Nat} {v : Value} {zs : List Int} (_hz : zs.length ≤ 1048576) (hI : Ints w B v zs) (hm : Held w 0 marksF) (hc : Held w 1 capF) (ho : Held w 2 othF) :
    Calls Tryd.prog 43 #[v] w fun e w' => ∃ v', e = .returned (.tuple #[v', .bool (okD zs)]) ∧ Ints w' w.heap.size v' (ansD zs) ∧ Below w.heap.size w w' := by
  have F := fullD_any hI hm hc ho
  have hlen := fullA_len zs
  unfold ansD
  clear hI hm hc ho
  cases hok : okR zs
  · rw [hok] at F
    rw [okD_no hok, if_neg (by simp)]
    clear hok hlen
    go_enter Tryd.func43, Tryd.ntmps43
    go_wp2_with fail
    refine F.mono ?_
    rintro e w1 ⟨v1, rfl, h1, h2⟩
    clear F
    go_wp2
    go_ret2
    exact ⟨_, rfl, ⟨rfl, .inl ⟨rfl, rfl⟩⟩, h2⟩
  · rw [hok] at F
    unfold fullA at F hlen
    rw [okD_eq hok]
    rw [hok, if_pos rfl] at F hlen
    clear hok
    generalize nD zs = ds at *
    by_cases hl : ds.length ≤ 200
    · have hl2 : ¬ (200 : Int) < (ds.length : Int) := by omega
      rw [decide_eq_true hl, if_pos rfl]
      go_enter Tryd.func43, Tryd.ntmps43
      go_wp2_with fail
      refine F.mono ?_
      rintro e w1 ⟨v1, rfl, h1, h2⟩
      clear F
      rcases h1.form with ⟨rfl, rfl⟩ | ⟨g, cap, rfl, _, _⟩
      · go_wp2
        go_ret2
        exact ⟨_, rfl, h1, h2⟩
      · go_wp2
        go_ret2
        exact ⟨_, rfl, h1, h2⟩
    · have hl2 : (200 : Int) < (ds.length : Int) := by omega
      rw [decide_eq_false hl, if_neg (by simp)]
      go_enter Tryd.func43, Tryd.ntmps43
      go_wp2_with fail
      refine F.mono ?_
      rintro e w1 ⟨v1, rfl, h1, h2⟩
      clear F
      rcases h1.form with ⟨rfl, rfl⟩ | ⟨g, cap, rfl, _, _⟩
      · exact absurd (by simp) hl
      · go_wp2
        go_ret2
        exact ⟨_, rfl, ⟨rfl, .inl ⟨rfl, rfl⟩⟩, h2⟩
end Go.Proofs.YtanfebccenfffagDoor
