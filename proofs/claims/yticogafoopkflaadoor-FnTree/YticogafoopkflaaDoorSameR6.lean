/- Contract of the laws' sameRows at two slices that hold the same rows. -/
import Derived.Test.YticogafoopkflaaDoorRw
import Derived.BigQuiet
import Derived.Deep.QuietTactic
import Derived.Deep.RegionHeld
namespace Go.Proofs.YticogafoopkflaaDoor
open Go.RowKit

set_option maxRecDepth 100000 in
set_option maxHeartbeats 1000000 in
theorem sameR_none (w : World) (a b : Option Addr) (c d : Nat) : Calls Tryd.prog 11 #[.slice a 0 c, .slice b 0 d] w fun e w' => e = .returned (.bool true) ∧ Below w.heap.size w w' := by
  go_enter Tryd.func11, Tryd.ntmps11
  go_wp2
  go_loopw [13] (fun i wr => i = .int .i64 0 ∧ wr = w) (fun _ _ => 0)
  case atStart => exact ⟨rfl, rfl⟩
  case round =>
    obtain ⟨rfl, rfl⟩ := hrel
    go_wp2
    go_ret
    exact ⟨rfl, Below.refl _ _⟩

def SRel6 (w : World) (n : Nat) (i : Value) (wr : World) : Prop := ∃ k : Nat, k ≤ n ∧ i = .int .i64 k ∧ Below w.heap.size w wr

set_option maxRecDepth 100000 in
set_option maxHeartbeats 2000000 in
theorem sameR_row (w : World) (B B' g g' cap cap' : Nat) (es : List Rw) (hz : es.length ≤ 1048576) (h1 : Rws w B (.slice (some ⟨g, 0, none⟩) es.length cap) es) (h2 : Rws w B' (.slice (some ⟨g', 0, none⟩) es.length cap') es) :
    Calls Tryd.prog 11 #[.slice (some ⟨g, 0, none⟩) es.length cap, .slice (some ⟨g', 0, none⟩) es.length cap'] w fun e w' => e = .returned (.bool true) ∧ Below w.heap.size w w' := by
  have hg := (World.ownsRow.lt h1 g rfl).2
  have hg' := (World.ownsRow.lt h2 g' rfl).2
  go_enter Tryd.func11, Tryd.ntmps11
  go_wp2
  go_loopw [13] (fun i wr => SRel6 w es.length i wr) (fun i _ => es.length - (intOf i).toNat)
  case atStart => exact ⟨0, Nat.zero_le _, rfl, Below.refl _ _⟩
  case round =>
    obtain ⟨k, hk, rfl, hb⟩ := hrel
    by_cases hlt : k < es.length
    · obtain ⟨e, he⟩ : ∃ e, es[k]? = some e := ⟨_, List.getElem?_eq_getElem hlt⟩
      obtain ⟨a0, a1, a2⟩ := (h1.below hb).cells k e he
      obtain ⟨b0, b1, b2⟩ := (h2.below hb).cells k e he
      have hk8 : (k : Int) < (es.length : Int) := by omega
      clear he h1 h2
      go_wp2_with fail
      go_region
      all_goals
        go_wp2
        exact ⟨⟨k + 1, by omega, by go_num, hb.drew⟩, by simp [intOf]; omega⟩
    · go_wp2
      go_ret
      exact ⟨rfl, hb⟩

theorem sameR_any {w : World} {B B' : Nat} {a b : Value} {es : List Rw} (hz : es.length ≤ 1048576) (ha : Rws w B a es) (hb : Rws w B' b es) :
    Calls Tryd.prog 11 #[a, b] w fun e w' => e = .returned (.bool true) ∧ Below w.heap.size w w' := by
  rcases ha.form with ⟨rfl, rfl⟩ | ⟨g, cap, rfl, h1, h2⟩
  · rcases hb.form with ⟨rfl, _⟩ | ⟨g', cap', rfl, _, _⟩
    · exact sameR_none w _ _ _ _
    · exact sameR_none w _ _ _ _
  · rcases hb.form with ⟨rfl, rfl⟩ | ⟨g', cap', rfl, _, _⟩
    · exact sameR_none w _ _ _ _
    · exact sameR_row w B B' g g' cap cap' es hz ha hb
end Go.Proofs.YticogafoopkflaaDoor
