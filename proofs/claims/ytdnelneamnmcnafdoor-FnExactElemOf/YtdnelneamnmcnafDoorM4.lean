/- Texts of mine laid together: EqEl, EqRules. -/
import Derived.Test.YtdnelneamnmcnafDoorEl
import Derived.BigQuiet
import Derived.Deep.QuietTactic
import Derived.Deep.RegionHeld
import Derived.Test.YtdnelneamnmcnafDoorEnts
import Derived.Test.YtdnelneamnmcnafDoorM2
import Derived.Deep.RegionHeldLaw
namespace Go.Proofs.YtdnelneamnmcnafDoor
open Go.RowKit

set_option maxRecDepth 100000 in
set_option maxHeartbeats 1000000 in
theorem eqElem_same (w : World) (a b c : Int) (d : Bool) : Calls Tryd.prog 9 #[.agg #[.int .i64 a, .int .i64 b, .int .i64 c, .bool d], .agg #[.int .i64 a, .int .i64 b, .int .i64 c, .bool d]] w fun e w' => e = .returned (.bool true) ∧ Below w.heap.size w w' := by
  go_enter Tryd.func9, Tryd.ntmps9
  go_wp2
  go_ret
  exact ⟨rfl, ((Below.refl _ _).alloc (Nat.le_refl _) _).alloc (by simp) _⟩
end Go.Proofs.YtdnelneamnmcnafDoor

namespace Go.Proofs.YtdnelneamnmcnafDoor
open Go.RowKit

set_option maxRecDepth 100000 in
set_option maxHeartbeats 2000000 in
theorem eqEnt_same {w : World} {B B' : Nat} {x y : Value} {l : List Int} (f s t : Int) (v : Bool) (hx : Ints w B x l) (hy : Ints w B' y l) :
    Calls Tryd.prog 34 #[.agg #[x, .int .i64 f, .int .i64 s, .int .i64 t, .bool v], .agg #[y, .int .i64 f, .int .i64 s, .int .i64 t, .bool v]] w fun e w' => e = .returned (.bool true) ∧ Below w.heap.size w w' := by
  obtain ⟨xa, xn, xc, rfl⟩ : ∃ xa xn xc, x = .slice xa xn xc := by
    rcases hx.form with ⟨rfl, _⟩ | ⟨_, _, rfl, _, _⟩
    · exact ⟨_, _, _, rfl⟩
    · exact ⟨_, _, _, rfl⟩
  obtain ⟨ya, yn, yc, rfl⟩ : ∃ ya yn yc, y = .slice ya yn yc := by
    rcases hy.form with ⟨rfl, _⟩ | ⟨_, _, rfl, _, _⟩
    · exact ⟨_, _, _, rfl⟩
    · exact ⟨_, _, _, rfl⟩
  have hb := ((Below.refl w.heap.size w).alloc (Nat.le_refl _) (.cells #[.slice xa xn xc, .int .i64 f, .int .i64 s, .int .i64 t, .bool v] 53)).alloc (by simp) (.cells #[.slice ya yn yc, .int .i64 f, .int .i64 s, .int .i64 t, .bool v] 53)
  have Q := eq_any (hx.below hb) (hy.below hb)
  have E := fun u => eqElem_same u f s t v
  have HB : Hid (Below _ _ _) := hb
  clear hb hx hy
  go_enter Tryd.func34, Tryd.ntmps34
  go_wp2_with fail
  refine Q.mono ?_
  rintro e w3 ⟨rfl, n3, rfl⟩
  clear Q
  go_wp2_with fail
  refine (E _).mono ?_
  rintro e w4 ⟨rfl, b4⟩
  have h3 := below_drewN HB.out n3
  clear E
  go_wp2
  go_ret
  exact ⟨rfl, h3.trans (b4.mono h3.size)⟩

set_option maxRecDepth 100000 in
set_option maxHeartbeats 1000000 in
theorem eqEs_none (w : World) (a b : Option Addr) (c d : Nat) : Calls Tryd.prog 21 #[.slice a 0 c, .slice b 0 d] w fun e w' => e = .returned (.bool true) ∧ Below w.heap.size w w' := by
  go_enter Tryd.func21, Tryd.ntmps21
  go_wp2
  go_loopw [5] (fun i wr => i = .int .i64 0 ∧ wr = w) (fun _ _ => 0)
  case atStart => exact ⟨rfl, rfl⟩
  case round =>
    obtain ⟨rfl, rfl⟩ := hrel
    go_wp2
    go_ret
    exact ⟨rfl, Below.refl _ _⟩

theorem keep10 {w0 w1 w2 : World} {g g' k xn xc yn yc : Nat} {xa ya : Option Addr} {e : Ent} (hg : g < w0.heap.size) (hg' : g' < w0.heap.size) (hb : Below w1.heap.size w1 w2)
    (h : w1.cell? ⟨g, k * 5, none⟩ = some (.slice xa xn xc) ∧ w1.cell? ⟨g, k * 5 + 1, none⟩ = some (.int .i64 e.el.first) ∧ w1.cell? ⟨g, k * 5 + 2, none⟩ = some (.int .i64 e.el.second) ∧ w1.cell? ⟨g, k * 5 + 3, none⟩ = some (.int .i64 e.el.third) ∧ w1.cell? ⟨g, k * 5 + 4, none⟩ = some (.bool e.el.varies) ∧ w1.cell? ⟨g', k * 5, none⟩ = some (.slice ya yn yc) ∧ w1.cell? ⟨g', k * 5 + 1, none⟩ = some (.int .i64 e.el.first) ∧ w1.cell? ⟨g', k * 5 + 2, none⟩ = some (.int .i64 e.el.second) ∧ w1.cell? ⟨g', k * 5 + 3, none⟩ = some (.int .i64 e.el.third) ∧ w1.cell? ⟨g', k * 5 + 4, none⟩ = some (.bool e.el.varies) ∧ Below w0.heap.size w0 w1) :
    w2.cell? ⟨g, k * 5, none⟩ = some (.slice xa xn xc) ∧ w2.cell? ⟨g, k * 5 + 1, none⟩ = some (.int .i64 e.el.first) ∧ w2.cell? ⟨g, k * 5 + 2, none⟩ = some (.int .i64 e.el.second) ∧ w2.cell? ⟨g, k * 5 + 3, none⟩ = some (.int .i64 e.el.third) ∧ w2.cell? ⟨g, k * 5 + 4, none⟩ = some (.bool e.el.varies) ∧ w2.cell? ⟨g', k * 5, none⟩ = some (.slice ya yn yc) ∧ w2.cell? ⟨g', k * 5 + 1, none⟩ = some (.int .i64 e.el.first) ∧ w2.cell? ⟨g', k * 5 + 2, none⟩ = some (.int .i64 e.el.second) ∧ w2.cell? ⟨g', k * 5 + 3, none⟩ = some (.int .i64 e.el.third) ∧ w2.cell? ⟨g', k * 5 + 4, none⟩ = some (.bool e.el.varies) ∧ Below w0.heap.size w0 w2 := by
  obtain ⟨a0, a1, a2, a3, a4, b0, b1, b2, b3, b4, h3⟩ := h
  have q1 : g < w1.heap.size := Nat.lt_of_lt_of_le hg h3.size
  have q2 : g' < w1.heap.size := Nat.lt_of_lt_of_le hg' h3.size
  exact ⟨by rw [hb.cell q1]; exact a0, by rw [hb.cell q1]; exact a1, by rw [hb.cell q1]; exact a2, by rw [hb.cell q1]; exact a3, by rw [hb.cell q1]; exact a4, by rw [hb.cell q2]; exact b0, by rw [hb.cell q2]; exact b1, by rw [hb.cell q2]; exact b2, by rw [hb.cell q2]; exact b3, by rw [hb.cell q2]; exact b4, h3.trans (hb.mono h3.size)⟩

def EsRel (w : World) (n : Nat) (i : Value) (wr : World) : Prop := ∃ k : Nat, k ≤ n ∧ i = .int .i64 k ∧ Below w.heap.size w wr

set_option maxRecDepth 100000 in
set_option maxHeartbeats 4000000 in
theorem eqEs_row (w0 : World) (B B' g g' cap cap' : Nat) (es : List Ent) (hz : es.length ≤ 1048576) (h1 : Ents w0 B (.slice (some ⟨g, 0, none⟩) es.length cap) es) (h2 : Ents w0 B' (.slice (some ⟨g', 0, none⟩) es.length cap') es) :
    Calls Tryd.prog 21 #[.slice (some ⟨g, 0, none⟩) es.length cap, .slice (some ⟨g', 0, none⟩) es.length cap'] w0 fun e w' => e = .returned (.bool true) ∧ Below w0.heap.size w0 w' := by
  have hg : g < w0.heap.size := by
    obtain ⟨xs, _, h3, _⟩ := h1
    exact (World.ownsRow.lt h3 g rfl).2
  have hg' : g' < w0.heap.size := by
    obtain ⟨xs, _, h3, _⟩ := h2
    exact (World.ownsRow.lt h3 g' rfl).2
  go_enter Tryd.func21, Tryd.ntmps21
  go_wp2
  go_loopw [5] (fun i wr => EsRel w0 es.length i wr) (fun i _ => es.length - (intOf i).toNat)
  case atStart => exact ⟨0, Nat.zero_le _, rfl, Below.refl _ _⟩
  case round =>
    obtain ⟨k, hk, rfl, hb⟩ := hrel
    by_cases hlt : k < es.length
    · obtain ⟨e, he⟩ : ∃ e, es[k]? = some e := ⟨_, List.getElem?_eq_getElem hlt⟩
      obtain ⟨x, hI, a0, a1, a2, a3, a4⟩ := h1.cells k e he
      obtain ⟨y, hJ, b0, b1, b2, b3, b4⟩ := h2.cells k e he
      obtain ⟨xa, xn, xc, rfl⟩ : ∃ xa xn xc, x = .slice xa xn xc := by
        rcases hI.form with ⟨rfl, _⟩ | ⟨_, _, rfl, _, _⟩
        · exact ⟨_, _, _, rfl⟩
        · exact ⟨_, _, _, rfl⟩
      obtain ⟨ya, yn, yc, rfl⟩ : ∃ ya yn yc, y = .slice ya yn yc := by
        rcases hJ.form with ⟨rfl, _⟩ | ⟨_, _, rfl, _, _⟩
        · exact ⟨_, _, _, rfl⟩
        · exact ⟨_, _, _, rfl⟩
      have hk8 : (k : Int) < (es.length : Int) := by omega
      have hS0 : w0.cell? ⟨g, k * 5, none⟩ = some (.slice xa xn xc) ∧ w0.cell? ⟨g, k * 5 + 1, none⟩ = some (.int .i64 e.el.first) ∧ w0.cell? ⟨g, k * 5 + 2, none⟩ = some (.int .i64 e.el.second) ∧ w0.cell? ⟨g, k * 5 + 3, none⟩ = some (.int .i64 e.el.third) ∧ w0.cell? ⟨g, k * 5 + 4, none⟩ = some (.bool e.el.varies) ∧ w0.cell? ⟨g', k * 5, none⟩ = some (.slice ya yn yc) ∧ w0.cell? ⟨g', k * 5 + 1, none⟩ = some (.int .i64 e.el.first) ∧ w0.cell? ⟨g', k * 5 + 2, none⟩ = some (.int .i64 e.el.second) ∧ w0.cell? ⟨g', k * 5 + 3, none⟩ = some (.int .i64 e.el.third) ∧ w0.cell? ⟨g', k * 5 + 4, none⟩ = some (.bool e.el.varies) ∧ Below w0.heap.size w0 w0 := ⟨a0, a1, a2, a3, a4, b0, b1, b2, b3, b4, Below.refl _ _⟩
      have hS := keep10 hg hg' hb hS0
      have hS2 := keep10 hg hg' ((Below.refl wr.heap.size wr).drew) hS
      have EQ := fun (u : World) (hu : u.cell? ⟨g, k * 5, none⟩ = some (.slice xa xn xc) ∧ u.cell? ⟨g, k * 5 + 1, none⟩ = some (.int .i64 e.el.first) ∧ u.cell? ⟨g, k * 5 + 2, none⟩ = some (.int .i64 e.el.second) ∧ u.cell? ⟨g, k * 5 + 3, none⟩ = some (.int .i64 e.el.third) ∧ u.cell? ⟨g, k * 5 + 4, none⟩ = some (.bool e.el.varies) ∧ u.cell? ⟨g', k * 5, none⟩ = some (.slice ya yn yc) ∧ u.cell? ⟨g', k * 5 + 1, none⟩ = some (.int .i64 e.el.first) ∧ u.cell? ⟨g', k * 5 + 2, none⟩ = some (.int .i64 e.el.second) ∧ u.cell? ⟨g', k * 5 + 3, none⟩ = some (.int .i64 e.el.third) ∧ u.cell? ⟨g', k * 5 + 4, none⟩ = some (.bool e.el.varies) ∧ Below w0.heap.size w0 u) => eqEnt_same e.el.first e.el.second e.el.third e.el.varies (hI.below hu.2.2.2.2.2.2.2.2.2.2) (hJ.below hu.2.2.2.2.2.2.2.2.2.2)
      have K := fun (u1 u2 : World) (hb : Below u1.heap.size u1 u2) (hu : u1.cell? ⟨g, k * 5, none⟩ = some (.slice xa xn xc) ∧ u1.cell? ⟨g, k * 5 + 1, none⟩ = some (.int .i64 e.el.first) ∧ u1.cell? ⟨g, k * 5 + 2, none⟩ = some (.int .i64 e.el.second) ∧ u1.cell? ⟨g, k * 5 + 3, none⟩ = some (.int .i64 e.el.third) ∧ u1.cell? ⟨g, k * 5 + 4, none⟩ = some (.bool e.el.varies) ∧ u1.cell? ⟨g', k * 5, none⟩ = some (.slice ya yn yc) ∧ u1.cell? ⟨g', k * 5 + 1, none⟩ = some (.int .i64 e.el.first) ∧ u1.cell? ⟨g', k * 5 + 2, none⟩ = some (.int .i64 e.el.second) ∧ u1.cell? ⟨g', k * 5 + 3, none⟩ = some (.int .i64 e.el.third) ∧ u1.cell? ⟨g', k * 5 + 4, none⟩ = some (.bool e.el.varies) ∧ Below w0.heap.size w0 u1) => keep10 hg hg' hb hu
      clear he h1 h2 a0 a1 a2 a3 a4 b0 b1 b2 b3 b4 hI hJ hS0
      go_wp2_with fail
      go_region_held (fun u => u.cell? ⟨g, k * 5, none⟩ = some (.slice xa xn xc) ∧ u.cell? ⟨g, k * 5 + 1, none⟩ = some (.int .i64 e.el.first) ∧ u.cell? ⟨g, k * 5 + 2, none⟩ = some (.int .i64 e.el.second) ∧ u.cell? ⟨g, k * 5 + 3, none⟩ = some (.int .i64 e.el.third) ∧ u.cell? ⟨g, k * 5 + 4, none⟩ = some (.bool e.el.varies) ∧ u.cell? ⟨g', k * 5, none⟩ = some (.slice ya yn yc) ∧ u.cell? ⟨g', k * 5 + 1, none⟩ = some (.int .i64 e.el.first) ∧ u.cell? ⟨g', k * 5 + 2, none⟩ = some (.int .i64 e.el.second) ∧ u.cell? ⟨g', k * 5 + 3, none⟩ = some (.int .i64 e.el.third) ∧ u.cell? ⟨g', k * 5 + 4, none⟩ = some (.bool e.el.varies) ∧ Below w0.heap.size w0 u)
        (first | exact hS2 | exact K _ _ (by assumption) (by assumption))
        (first | (go_at_call 34; refine (EQ _ (by assumption)).mono ?_; rintro e w' ⟨rfl, hbw⟩))
      all_goals
        have hE := (show w'.cell? ⟨g, k * 5, none⟩ = _ ∧ _ ∧ _ ∧ _ ∧ _ ∧ _ ∧ _ ∧ _ ∧ _ ∧ _ ∧ Below w0.heap.size w0 w' by assumption).2.2.2.2.2.2.2.2.2.2
        clear hS hS2 EQ K
        go_wp2
        exact ⟨⟨k + 1, by omega, by go_num, hE⟩, by simp [intOf]; omega⟩
    · go_wp2
      go_ret
      exact ⟨rfl, hb⟩

theorem eqEs_any {w : World} {B B' : Nat} {a b : Value} {es : List Ent} (hz : es.length ≤ 1048576) (ha : Ents w B a es) (hb : Ents w B' b es) :
    Calls Tryd.prog 21 #[a, b] w fun e w' => e = .returned (.bool true) ∧ Below w.heap.size w w' := by
  rcases ha.form with ⟨rfl, rfl⟩ | ⟨g, cap, rfl, h1, h2, _, _⟩
  · rcases hb.form with ⟨rfl, _⟩ | ⟨g', cap', rfl, _, _, _, _⟩
    · exact eqEs_none w _ _ _ _
    · exact eqEs_none w _ _ _ _
  · rcases hb.form with ⟨rfl, rfl⟩ | ⟨g', cap', rfl, _, _, _, _⟩
    · exact eqEs_none w _ _ _ _
    · exact eqEs_row w B B' g g' cap cap' es hz ha hb

set_option maxRecDepth 100000 in
set_option maxHeartbeats 2000000 in
theorem eqRules_same {w : World} {B B' : Nat} {a b : Value} {es : List Ent} (sh : Bool) (lv : Int) (hz : es.length ≤ 1048576) (ha : Ents w B a es) (hb : Ents w B' b es) :
    Calls Tryd.prog 10 #[.agg #[a, .bool sh, .int .i64 lv], .agg #[b, .bool sh, .int .i64 lv]] w fun e w' => e = .returned (.bool true) ∧ Below w.heap.size w w' := by
  obtain ⟨xa, xn, xc, rfl⟩ : ∃ xa xn xc, a = .slice xa xn xc := by
    rcases ha.form with ⟨rfl, _⟩ | ⟨_, _, rfl, _, _, _, _⟩
    · exact ⟨_, _, _, rfl⟩
    · exact ⟨_, _, _, rfl⟩
  obtain ⟨ya, yn, yc, rfl⟩ : ∃ ya yn yc, b = .slice ya yn yc := by
    rcases hb.form with ⟨rfl, _⟩ | ⟨_, _, rfl, _, _, _, _⟩
    · exact ⟨_, _, _, rfl⟩
    · exact ⟨_, _, _, rfl⟩
  have hw := ((Below.refl w.heap.size w).alloc (Nat.le_refl _) (.cells #[.slice xa xn xc, .bool sh, .int .i64 lv] 33)).alloc (by simp) (.cells #[.slice ya yn yc, .bool sh, .int .i64 lv] 33)
  have Q := eqEs_any hz (ha.below hw) (hb.below hw)
  have HX : Hid (_ ∧ _) := And.intro (show ((w.alloc (.cells #[.slice xa xn xc, .bool sh, .int .i64 lv] 33)).alloc (.cells #[.slice ya yn yc, .bool sh, .int .i64 lv] 33)).heap[w.heap.size]? = some (.cells #[.slice xa xn xc, .bool sh, .int .i64 lv] 33) by rw [Below.heap_alloc _ _ _ (by simp)]; exact heap_alloc_new w _) (heap_alloc2_new w (.cells #[.slice xa xn xc, .bool sh, .int .i64 lv] 33) (.cells #[.slice ya yn yc, .bool sh, .int .i64 lv] 33))
  have HB : Hid (Below _ _ _) := hw
  clear hw ha hb
  go_enter Tryd.func10, Tryd.ntmps10
  go_wp2_with fail
  refine Q.mono ?_
  rintro e w3 ⟨rfl, b3⟩
  have k1 : w3.heap[w.heap.size]? = some (.cells #[.slice xa xn xc, .bool sh, .int .i64 lv] 33) := by rw [b3.block _ (by simp; omega)]; exact HX.out.1
  have k2 : w3.heap[w.heap.size + 1]? = some (.cells #[.slice ya yn yc, .bool sh, .int .i64 lv] 33) := by rw [b3.block _ (by simp)]; exact HX.out.2
  have c1 := cell_of_row _ _ 1 _ _ _ k1
  have c2 := cell_of_row _ _ 2 _ _ _ k1
  have d1 := cell_of_row _ _ 1 _ _ _ k2
  have d2 := cell_of_row _ _ 2 _ _ _ k2
  have HC : Hid (Below _ _ _) := HB.out.trans (b3.mono HB.out.size)
  clear Q k1 k2 HX HB b3
  go_wp2
  go_ret
  exact ⟨rfl, HC.out⟩
end Go.Proofs.YtdnelneamnmcnafDoor
