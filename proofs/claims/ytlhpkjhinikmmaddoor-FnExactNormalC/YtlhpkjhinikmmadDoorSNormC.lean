/- Contract of the specification's NormalC. -/
import Derived.Test.YtlhpkjhinikmmadDoorSComp
import Derived.Test.YtlhpkjhinikmmadDoorINormC
namespace Go.Proofs.YtlhpkjhinikmmadDoor
open Go.RowKit

set_option maxRecDepth 100000 in
set_option maxHeartbeats 1000000 in
theorem c_nil (w : World) : Calls Tryd.prog 39 #[.slice none 0 0] w fun e w' => ∃ v, e = .returned v ∧ Ints w' w.heap.size v [] ∧ Below w.heap.size w w' := by
  go_enter Tryd.func39, Tryd.ntmps39
  go_wp2
  go_loop [3, 14] (fun o i => o = .slice none 0 0 ∧ i = .int .i64 0) (fun _ _ => 0)
  case atStart => exact ⟨rfl, rfl⟩
  case round =>
    obtain ⟨rfl, rfl⟩ := hrel
    go_wp2
    go_ret
    exact ⟨_, rfl, ⟨rfl, .inl ⟨rfl, rfl⟩⟩, Below.refl _ _⟩

theorem c_any {w : World} {B : Nat} {v : Value} {ds : List Int} (hz : ds.length ≤ 2000) (hI : Ints w B v ds) :
    Calls Tryd.prog 39 #[v] w fun e w' => ∃ v', e = .returned v' ∧ Ints w' w.heap.size v' (compS ds ds.length).1 ∧ Below w.heap.size w w' := by
  rcases hI.form with ⟨rfl, rfl⟩ | ⟨g, cap, rfl, _, _⟩
  · exact c_nil w
  · exact c_row w B g cap ds hz hI

set_option maxRecDepth 100000 in
set_option maxHeartbeats 2000000 in
theorem specC_any {w : World} {B : Nat} {v : Value} {zs : List Int} (hz : zs.length ≤ 1048576) (hI : Ints w B v zs) :
    Calls Tryd.prog 23 #[v] w fun e w' => ∃ v', e = .returned (.tuple #[v', .bool (okD zs)]) ∧ Ints w' w.heap.size v' (ansC zs) ∧ Below w.heap.size w w' := by
  have G := good_any hz hI
  unfold ansC
  cases hok : okR zs
  · rw [hok] at G
    rw [okD_no hok, if_neg (by simp)]
    clear hI hok
    go_enter Tryd.func23, Tryd.ntmps23
    go_wp2_with fail
    refine G.mono ?_
    rintro e w1 ⟨rfl, rfl⟩
    clear G
    go_wp2
    go_ret2
    exact ⟨_, rfl, ⟨rfl, .inl ⟨rfl, rfl⟩⟩, Below.refl _ _⟩
  · rw [hok] at G
    have D := fun (u : World) (B : Nat) (h : Ints u B v zs) => d_any (okR_true hok).1 h
    by_cases hl : 200 < (nD zs).length
    · rw [okD_long hl, if_neg (by simp)]
      clear hok
      generalize nD zs = ds at *
      have hl2 : (200 : Int) < (ds.length : Int) := by omega
      go_enter Tryd.func23, Tryd.ntmps23
      go_wp2_with fail
      refine G.mono ?_
      rintro e w1 ⟨rfl, rfl⟩
      clear G
      go_wp2_with fail
      refine (D _ _ hI).mono ?_
      rintro e w2 ⟨v', rfl, h2, h3⟩
      obtain ⟨g, cap, rfl⟩ := ints_some h2 (by omega)
      clear D hI
      go_wp2
      go_ret2
      exact ⟨_, rfl, ⟨rfl, .inl ⟨rfl, rfl⟩⟩, h3⟩
    · rw [okD_yes hok hl, if_pos rfl]
      have hbd := nD_bound hok
      have CA := fun (u : World) (B : Nat) (v : Value) (h : Ints u B v (nD zs)) => c_any (by omega) h
      unfold nC
      clear hok
      generalize nD zs = ds at *
      generalize (compS ds ds.length).1 = cs at *
      have hl2 : ¬ (200 : Int) < (ds.length : Int) := by omega
      go_enter Tryd.func23, Tryd.ntmps23
      go_wp2_with fail
      refine G.mono ?_
      rintro e w1 ⟨rfl, rfl⟩
      clear G
      go_wp2_with fail
      refine (D _ _ hI).mono ?_
      rintro e w2 ⟨v', rfl, h2, h3⟩
      have hI2 := hI.below h3
      rcases h2.form with ⟨rfl, rfl⟩ | ⟨g, cap, rfl, _, _⟩
      · go_wp2_with fail
        refine (D _ _ hI2).mono ?_
        rintro e w3 ⟨v3, rfl, h4, h5⟩
        go_wp2_with fail
        refine (CA _ _ _ h4).mono ?_
        rintro e w4 ⟨v4, rfl, h6, h7⟩
        clear D CA hI hI2
        have b3 := h3.trans (h5.mono h3.size)
        go_wp2
        go_ret2
        exact ⟨_, rfl, ints_low2 h6 b3.size, b3.trans (h7.mono b3.size)⟩
      · go_wp2_with fail
        refine (D _ _ hI2).mono ?_
        rintro e w3 ⟨v3, rfl, h4, h5⟩
        go_wp2_with fail
        refine (CA _ _ _ h4).mono ?_
        rintro e w4 ⟨v4, rfl, h6, h7⟩
        clear D CA hI hI2
        have b3 := h3.trans (h5.mono h3.size)
        go_wp2
        go_ret2
        exact ⟨_, rfl, ints_low2 h6 b3.size, b3.trans (h7.mono b3.size)⟩
end Go.Proofs.YtlhpkjhinikmmadDoor
