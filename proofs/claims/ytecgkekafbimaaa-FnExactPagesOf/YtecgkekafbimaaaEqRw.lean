/- Contracts of the laws' eqRow and eqRowS. -/
import Derived.Test.YtecgkekafbimaaaEqRow
import Derived.BigQuiet
import Derived.Deep.QuietTactic
import Derived.Deep.RegionHeld
namespace Go.Proofs.Ytecgkekafbimaaa
open Go.RowKit

set_option maxRecDepth 100000 in
set_option maxHeartbeats 1000000 in
theorem eqR_none (w : World) (a b : Option Addr) (c d : Nat) : Calls Try.prog 10 #[.slice a 0 c, .slice b 0 d] w fun e w' => e = .returned (.bool true) ∧ Below w.heap.size w w' := by
  go_enter Try.func10, Try.ntmps10
  go_wp2
  go_loopw [5] (fun i wr => i = .int .i64 0 ∧ wr = w) (fun _ _ => 0)
  case atStart => exact ⟨rfl, rfl⟩
  case round =>
    obtain ⟨rfl, rfl⟩ := hrel
    go_wp2
    go_ret
    exact ⟨rfl, Below.refl _ _⟩

theorem keepR6 {w0 w1 w2 : World} {g g' k : Nat} {e : Rw} (hb : Below w1.heap.size w1 w2)
    (h : w1.cell? ⟨g, k * 3, none⟩ = some (.string e.key) ∧ w1.cell? ⟨g, k * 3 + 1, none⟩ = some (.string e.text) ∧ w1.cell? ⟨g, k * 3 + 2, none⟩ = some (.string e.val) ∧
      w1.cell? ⟨g', k * 3, none⟩ = some (.string e.key) ∧ w1.cell? ⟨g', k * 3 + 1, none⟩ = some (.string e.text) ∧ w1.cell? ⟨g', k * 3 + 2, none⟩ = some (.string e.val) ∧ g < w0.heap.size ∧ g' < w0.heap.size ∧ Below w0.heap.size w0 w1) :
    w2.cell? ⟨g, k * 3, none⟩ = some (.string e.key) ∧ w2.cell? ⟨g, k * 3 + 1, none⟩ = some (.string e.text) ∧ w2.cell? ⟨g, k * 3 + 2, none⟩ = some (.string e.val) ∧
      w2.cell? ⟨g', k * 3, none⟩ = some (.string e.key) ∧ w2.cell? ⟨g', k * 3 + 1, none⟩ = some (.string e.text) ∧ w2.cell? ⟨g', k * 3 + 2, none⟩ = some (.string e.val) ∧ g < w0.heap.size ∧ g' < w0.heap.size ∧ Below w0.heap.size w0 w2 := by
  obtain ⟨a0, a1, a2, b0, b1, b2, h1, h2, h3⟩ := h
  have q1 : g < w1.heap.size := Nat.lt_of_lt_of_le h1 h3.size
  have q2 : g' < w1.heap.size := Nat.lt_of_lt_of_le h2 h3.size
  exact ⟨by rw [hb.cell q1]; exact a0, by rw [hb.cell q1]; exact a1, by rw [hb.cell q1]; exact a2, by rw [hb.cell q2]; exact b0, by rw [hb.cell q2]; exact b1, by rw [hb.cell q2]; exact b2, h1, h2, h3.trans (hb.mono h3.size)⟩

def ERel6 (w : World) (n : Nat) (i : Value) (wr : World) : Prop := ∃ k : Nat, k ≤ n ∧ i = .int .i64 k ∧ Below w.heap.size w wr

set_option maxRecDepth 100000 in
set_option maxHeartbeats 2000000 in
theorem eqR_row (w : World) (B B' g g' cap cap' : Nat) (es : List Rw) (hz : es.length ≤ 1048576) (h1 : Rws w B (.slice (some ⟨g, 0, none⟩) es.length cap) es) (h2 : Rws w B' (.slice (some ⟨g', 0, none⟩) es.length cap') es) :
    Calls Try.prog 10 #[.slice (some ⟨g, 0, none⟩) es.length cap, .slice (some ⟨g', 0, none⟩) es.length cap'] w fun e w' => e = .returned (.bool true) ∧ Below w.heap.size w w' := by
  have hg := (World.ownsRow.lt h1 g rfl).2
  have hg' := (World.ownsRow.lt h2 g' rfl).2
  go_enter Try.func10, Try.ntmps10
  go_wp2
  go_loopw [5] (fun i wr => ERel6 w es.length i wr) (fun i _ => es.length - (intOf i).toNat)
  case atStart => exact ⟨0, Nat.zero_le _, rfl, Below.refl _ _⟩
  case round =>
    obtain ⟨k, hk, rfl, hb⟩ := hrel
    by_cases hlt : k < es.length
    · obtain ⟨e, he⟩ : ∃ e, es[k]? = some e := ⟨_, List.getElem?_eq_getElem hlt⟩
      obtain ⟨a0, a1, a2⟩ := (h1.below hb).cells k e he
      obtain ⟨b0, b1, b2⟩ := (h2.below hb).cells k e he
      have hk8 : (k : Int) < (es.length : Int) := by omega
      have hS : wr.cell? ⟨g, k * 3, none⟩ = some (.string e.key) ∧ wr.cell? ⟨g, k * 3 + 1, none⟩ = some (.string e.text) ∧ wr.cell? ⟨g, k * 3 + 2, none⟩ = some (.string e.val) ∧
        wr.cell? ⟨g', k * 3, none⟩ = some (.string e.key) ∧ wr.cell? ⟨g', k * 3 + 1, none⟩ = some (.string e.text) ∧ wr.cell? ⟨g', k * 3 + 2, none⟩ = some (.string e.val) ∧ g < w.heap.size ∧ g' < w.heap.size ∧ Below w.heap.size w wr := ⟨a0, a1, a2, b0, b1, b2, hg, hg', hb⟩
      have hS2 := keepR6 ((Below.refl wr.heap.size wr).drew) hS
      have EQ := fun u => eqRow_same u e
      clear he h1 h2 a0 a1 a2 b0 b1 b2
      go_wp2_with fail
      go_region_held (fun w' => w'.cell? ⟨g, k * 3, none⟩ = some (.string e.key) ∧ w'.cell? ⟨g, k * 3 + 1, none⟩ = some (.string e.text) ∧ w'.cell? ⟨g, k * 3 + 2, none⟩ = some (.string e.val) ∧
        w'.cell? ⟨g', k * 3, none⟩ = some (.string e.key) ∧ w'.cell? ⟨g', k * 3 + 1, none⟩ = some (.string e.text) ∧ w'.cell? ⟨g', k * 3 + 2, none⟩ = some (.string e.val) ∧ g < w.heap.size ∧ g' < w.heap.size ∧ Below w.heap.size w w')
        (first | exact hS2 | exact keepR6 (by assumption) (by assumption))
        (first | (go_at_call 26; refine (EQ _).mono ?_; rintro e w' ⟨rfl, hbw⟩))
      all_goals
        have hE := (show w'.cell? ⟨g, k * 3, none⟩ = _ ∧ _ ∧ _ ∧ _ ∧ _ ∧ _ ∧ _ ∧ _ ∧ Below w.heap.size w w' by assumption).2.2.2.2.2.2.2.2
        clear hS hS2 EQ
        go_wp2
        exact ⟨⟨k + 1, by omega, by go_num, hE⟩, by simp [intOf]; omega⟩
    · go_wp2
      go_ret
      exact ⟨rfl, hb⟩

theorem eqR_any {w : World} {B B' : Nat} {a b : Value} {es : List Rw} (hz : es.length ≤ 1048576) (ha : Rws w B a es) (hb : Rws w B' b es) :
    Calls Try.prog 10 #[a, b] w fun e w' => e = .returned (.bool true) ∧ Below w.heap.size w w' := by
  rcases ha.form with ⟨rfl, rfl⟩ | ⟨g, cap, rfl, h1, h2⟩
  · rcases hb.form with ⟨rfl, _⟩ | ⟨g', cap', rfl, _, _⟩
    · exact eqR_none w _ _ _ _
    · exact eqR_none w _ _ _ _
  · rcases hb.form with ⟨rfl, rfl⟩ | ⟨g', cap', rfl, _, _⟩
    · exact eqR_none w _ _ _ _
    · exact eqR_row w B B' g g' cap cap' es hz ha hb
end Go.Proofs.Ytecgkekafbimaaa
