/- Contract of the specification's NormalD. -/
import Derived.Test.YtlhpkjhinikmmaaDoorSD
namespace Go.Proofs.YtlhpkjhinikmmaaDoor
open Go.RowKit

set_option maxRecDepth 100000 in
set_option maxHeartbeats 1000000 in
theorem specD_any {w : World} {B : Nat} {v : Value} {zs : List Int} (hz : zs.length ≤ 1048576) (hI : Ints w B v zs) :
    Calls Tryd.prog 7 #[v] w fun e w' => ∃ v', e = .returned (.tuple #[v', .bool (okD zs)]) ∧ Ints w' w.heap.size v' (ansD zs) ∧ Below w.heap.size w w' := by
  have G := good_any hz hI
  unfold ansD
  cases hok : okR zs
  · rw [hok] at G
    rw [okD_no hok, if_neg (by simp)]
    clear hI hok
    go_enter Tryd.func7, Tryd.ntmps7
    go_wp2_with fail
    refine G.mono ?_
    rintro e w1 ⟨rfl, rfl⟩
    clear G
    go_wp2
    go_ret2
    exact ⟨_, rfl, ⟨rfl, .inl ⟨rfl, rfl⟩⟩, Below.refl _ _⟩
  · rw [hok] at G
    have D := d_any (okR_true hok).1 hI
    by_cases hl : 200 < (nD zs).length
    · rw [okD_long hl, if_neg (by simp)]
      clear hok hI
      generalize nD zs = ds at *
      have hl2 : (200 : Int) < (ds.length : Int) := by omega
      go_enter Tryd.func7, Tryd.ntmps7
      go_wp2_with fail
      refine G.mono ?_
      rintro e w1 ⟨rfl, rfl⟩
      clear G
      go_wp2_with fail
      refine D.mono ?_
      rintro e w2 ⟨v', rfl, h2, h3⟩
      obtain ⟨g, cap, rfl⟩ := ints_some h2 (by omega)
      clear D
      go_wp2
      go_ret2
      exact ⟨_, rfl, ⟨rfl, .inl ⟨rfl, rfl⟩⟩, h3⟩
    · rw [okD_yes hok hl, if_pos rfl]
      clear hok hI
      generalize nD zs = ds at *
      have hl2 : ¬ (200 : Int) < (ds.length : Int) := by omega
      go_enter Tryd.func7, Tryd.ntmps7
      go_wp2_with fail
      refine G.mono ?_
      rintro e w1 ⟨rfl, rfl⟩
      clear G
      go_wp2_with fail
      refine D.mono ?_
      rintro e w2 ⟨v', rfl, h2, h3⟩
      clear D
      rcases h2.form with ⟨rfl, rfl⟩ | ⟨g, cap, rfl, _, _⟩
      · go_wp2
        go_ret2
        exact ⟨_, rfl, h2, h3⟩
      · go_wp2
        go_ret2
        exact ⟨_, rfl, h2, h3⟩
end Go.Proofs.YtlhpkjhinikmmaaDoor
