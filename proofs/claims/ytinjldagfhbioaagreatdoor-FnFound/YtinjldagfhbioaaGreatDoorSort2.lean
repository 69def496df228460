/- Contract of the specification's l2Sort: a row of its own with the runs of marks sorted by class, those of one class in order. -/
import Derived.Test.YtinjldagfhbioaaGreatDoorClass
import Derived.Deep.AppendLies
import Derived.Laws.OwnMore
namespace Go.Proofs.YtinjldagfhbioaaGreatDoor
open Go.RowKit

def OutRel (w : World) (g cap : Nat) (zs : List Int) (i : Value) (wr : World) : Prop :=
  ∃ k : Nat, k ≤ zs.length ∧ i = .int .i64 k ∧ wr.ownsRow w.heap.size 3 1 (.slice (some ⟨g, 0, none⟩) zs.length cap) zs.length ((srt zs k).map (Value.int .i64)) ∧ Below w.heap.size w wr

def InRel (w : World) (g cap : Nat) (zs : List Int) (goal : List Int) (k : Value) (wr : World) : Prop :=
  ∃ (j : Nat) (l : List Int), j < zs.length ∧ k = .int .i64 j ∧ l.length = zs.length ∧ wr.ownsRow w.heap.size 3 1 (.slice (some ⟨g, 0, none⟩) zs.length cap) zs.length (l.map (Value.int .i64)) ∧ Below w.heap.size w wr ∧ bub l j = goal

set_option maxRecDepth 100000 in
set_option maxHeartbeats 2000000 in
theorem sort_row (w : World) (g0 cap0 : Nat) (zs : List Int) (hz0 : 0 < zs.length) (hz : zs.length ≤ 1048576) (hg0 : g0 < w.heap.size)
    (hc : ∀ j, j < zs.length → w.cell? ⟨g0, j, none⟩ = some (.int .i64 (zs[j]?.getD 0))) :
    Calls Tryz.prog 62 #[.slice (some ⟨g0, 0, none⟩) zs.length cap0] w fun e w' => ∃ v, e = .returned v ∧ Ints w' w.heap.size v (sortM zs) ∧ Below w.heap.size w w' := by
  obtain ⟨i0, hi, hzz, hz1, hz2⟩ := info_parts info_int
  have hown0 := World.ownsRow_lit (base := w.heap.size) (e := 3) (size := 1) w #[] 0 (Nat.le_refl _) (by unfold maxLen; omega) rfl
  go_enter Tryz.func62, Tryz.ntmps62
  go_wp2_with (at_builtin; refine wpList_append_lies _ rfl _ _ 35 rfl w.heap.size 3 i0 (.int .i64 0) 1 8 Tryz.underlying35 hi hzz hz1 hz2 rfl (by decide) _ 0 [] rfl hown0 ⟨g0, 0, none⟩ zs.length cap0 (zs.map (Value.int .i64)) rfl (by simp) ?hn (fun x hx => by simp at hx; obtain ⟨y, _, rfl⟩ := hx; rfl) hz0 (by unfold maxLen; omega) (by omega) (by simp) (w.heap.size + 1) (by simp) ?_)
  case hn =>
    intro j a ha
    have hj := (List.getElem?_eq_some_iff.1 ha).1
    rw [hc j hj, ha]; rfl
  intro g cap w1 hown hgr hgg hlt1
  have hb1 : Below w.heap.size w w1 := Below.grown ((Below.refl _ _).alloc (Nat.le_refl _) _) hgr (by simp) (fun j hj => by cases hj; exact Nat.le_refl _)
  clear hgr hgg hc hown0
  go_wp2_with fail
  go_loopw [12] (fun i wr => OutRel w g cap zs i wr) (fun i _ => zs.length - (intOf i).toNat)
  case atStart => exact ⟨0, Nat.zero_le _, rfl, hown, hb1⟩
  case round =>
    clear hown hb1
    obtain ⟨i, hi1, rfl, hown, hbw⟩ := hrel
    by_cases hlt : i < zs.length
    · go_wp2_with fail
      go_loopw [5] (fun k wr => InRel w g cap zs (srt zs (i + 1)) k wr) (fun k _ => (intOf k).toNat)
      case atStart => exact ⟨i, srt zs i, hlt, rfl, srt_length zs i, hown, hbw, rfl⟩
      case round =>
        clear hown hbw
        obtain ⟨j, l, hj, rfl, hl, hown, hbw, hgoal⟩ := hrel
        have HG : Hid _ := hgoal
        clear hgoal
        cases j with
        | zero =>
          go_wp2
          go_quiet (fail)
          go_wp2
          have he : l = srt zs (i + 1) := HG.out
          subst he
          exact ⟨⟨i + 1, by omega, by go_num, hown, below_drewN hbw _⟩, by simp [intOf]; omega⟩
        | succ m =>
          have cx := hown.cellAt (m + 1) (by omega)
          have cy := hown.cellAt m (by omega)
          have ex : (l.map (Value.int .i64))[m + 1]? = some (.int .i64 (at0 l (m + 1))) := by simp [at0, hl, hj]
          have ey : (l.map (Value.int .i64))[m]? = some (.int .i64 (at0 l m)) := by
            have : m < l.length := by omega
            simp [at0, this]
          rw [ex] at cx
          rw [ey] at cy
          have fx := hown.frozenAt (m + 1)
          have fy := hown.frozenAt m
          clear ex ey
          have C := fun r w => specClass_any r w
          by_cases c : 0 < cls (at0 l (m + 1)) ∧ cls (at0 l (m + 1)) < cls (at0 l m)
          · have HG2 : Hid _ := (bub_go l m c).symm.trans HG.out
            have h1 := (hown.stored (m + 1) (.int .i64 (at0 l m))).1
            have h2 := (h1.stored m (.int .i64 (at0 l (m + 1)))).1
            have g1 := (hown.stored (m + 1) (.int .i64 (at0 l m))).2
            have g2 := (h1.stored m (.int .i64 (at0 l (m + 1)))).2
            have e3 : ((l.map (Value.int .i64)).set (m + 1) (.int .i64 (at0 l m))).set m (.int .i64 (at0 l (m + 1))) = ((l.set (m + 1) (at0 l m)).set m (at0 l (m + 1))).map (Value.int .i64) := by simp [List.map_set]
            rw [e3] at h2
            have hlen : ((l.set (m + 1) (at0 l m)).set m (at0 l (m + 1))).length = zs.length := by simp [hl]
            have HW : Hid _ := And.intro h2 (And.intro g1 (And.intro g2 hlen))
            obtain ⟨c1, c2⟩ := c
            have hgb := (hown.lt g rfl).1
            clear h1 h2 g1 g2 e3 hlen HG hown
            generalize at0 l (m + 1) = x at *
            generalize at0 l m = y at *
            go_wp2
            go_quiet ((go_at_call 44; exact Calls.quiet_of_same (C _ _)))
            go_wp2
            have HW1 := HW.out
            exact ⟨⟨m, _, by omega, by go_num, HW1.2.2.2, HW1.1, below_drewN (Below.grown (Below.grown hbw HW1.2.1 (hbw.size) (fun j hj => by cases hj; exact hgb)) HW1.2.2.1 (Nat.le_trans hbw.size HW1.2.1.size) (fun j hj => by cases hj; exact hgb)) _, HG2.out⟩, by simp [intOf]⟩
          · have he : l = srt zs (i + 1) := (bub_stop l m c).symm.trans HG.out
            clear HG
            generalize at0 l (m + 1) = x at *
            generalize at0 l m = y at *
            by_cases c1 : 0 < cls x
            · have c2 : ¬ cls x < cls y := fun h => c ⟨c1, h⟩
              have d2 : decide (cls x < cls y) = false := by simpa using c2
              clear c
              go_wp2
              go_quiet ((go_at_call 44; exact Calls.quiet_of_same (C _ _)))
              go_wp2
              subst he
              exact ⟨⟨i + 1, by omega, by go_num, hown, below_drewN hbw _⟩, by simp [intOf]; omega⟩
            · have d1 : decide (0 < cls x) = false := by simpa using c1
              clear c c1
              go_wp2
              go_quiet ((go_at_call 44; exact Calls.quiet_of_same (C _ _)))
              go_wp2
              subst he
              exact ⟨⟨i + 1, by omega, by go_num, hown, below_drewN hbw _⟩, by simp [intOf]; omega⟩
    · have hiz : i = zs.length := by omega
      subst hiz
      go_wp2
      go_ret
      refine ⟨_, rfl, ?_, hbw⟩
      unfold Ints sortM
      rw [srt_length]
      exact hown

theorem own_some {w : World} {B e n : Nat} {v : Value} {xs : List Value} (h : w.ownsRow B e 1 v n xs) (hn : v ≠ .slice none 0 0) : ∃ g cap, v = .slice (some ⟨g, 0, none⟩) n cap := by
  rcases h.2 with ⟨h, _⟩ | ⟨g, cap, _, h, _⟩
  · exact absurd h hn
  · exact ⟨g, cap, h⟩

set_option maxRecDepth 100000 in
set_option maxHeartbeats 1000000 in
theorem sort_nil (w : World) :
    Calls Tryz.prog 62 #[.slice none 0 0] w fun e w' => ∃ v, e = .returned v ∧ Ints w' w.heap.size v [] ∧ Below w.heap.size w w' := by
  have hown0 := World.ownsRow_lit (base := w.heap.size) (e := 3) (size := 1) w #[] 0 (Nat.le_refl _) (by unfold maxLen; omega) rfl
  go_enter Tryz.func62, Tryz.ntmps62
  go_wp2
  go_loopw [12] (fun i wr => i = .int .i64 0 ∧ wr = w.alloc (.cells #[] 3)) (fun _ _ => 0)
  case atStart => exact ⟨rfl, rfl⟩
  case round =>
    obtain ⟨rfl, rfl⟩ := hrel
    go_wp2
    go_ret
    exact ⟨_, rfl, hown0, (Below.refl _ _).alloc (Nat.le_refl _) _⟩

set_option maxRecDepth 100000 in
set_option maxHeartbeats 1000000 in
theorem sort_empty (w : World) (ad : Addr) (c : Nat) :
    Calls Tryz.prog 62 #[.slice (some ad) 0 c] w fun e w' => ∃ v, e = .returned v ∧ Ints w' w.heap.size v [] ∧ Below w.heap.size w w' := by
  obtain ⟨i0, hi, hzz, hz1, hz2⟩ := info_parts info_int
  have hown0 := World.ownsRow_lit (base := w.heap.size) (e := 3) (size := 1) w #[] 0 (Nat.le_refl _) (by unfold maxLen; omega) rfl
  go_enter Tryz.func62, Tryz.ntmps62
  go_wp2_with (at_builtin; refine wpList_append_own _ rfl _ _ 35 rfl w.heap.size 3 i0 (.int .i64 0) 1 8 Tryz.underlying35 hi hzz hz1 hz2 rfl (by decide) _ 0 [] rfl hown0 ad 0 c [] rfl rfl (fun j u h => by simp at h) (fun x hx => by simp at hx) (by unfold maxLen; omega) (by omega) (by simp) ?_; intro v w1 hown hgr hnn; obtain ⟨g, cap, rfl⟩ := own_some hown (fun h => by have := (hnn.1 h).1; cases this); clear hnn)
  have hb1 : Below w.heap.size w w1 := Below.grown ((Below.refl _ _).alloc (Nat.le_refl _) _) hgr (by simp) (fun j hj => by cases hj; exact Nat.le_refl _)
  have hI : Ints w1 w.heap.size (.slice (some ⟨g, 0, none⟩) 0 cap) [] := hown
  clear hown hgr hown0
  go_loopw [12] (fun i wr => i = .int .i64 0 ∧ wr = w1) (fun _ _ => 0)
  case atStart => exact ⟨rfl, rfl⟩
  case round =>
    obtain ⟨rfl, rfl⟩ := hrel
    go_wp2
    go_ret
    exact ⟨_, rfl, hI, hb1⟩

theorem sort_any {w : World} {B : Nat} {v : Value} {zs : List Int} (hz : zs.length ≤ 1048576) (hI : Ints w B v zs) :
    Calls Tryz.prog 62 #[v] w fun e w' => ∃ v', e = .returned v' ∧ Ints w' w.heap.size v' (sortM zs) ∧ Below w.heap.size w w' := by
  have hl := World.ownsRow.lt hI
  rcases hI.form with ⟨rfl, rfl⟩ | ⟨g, cap, rfl, h1, h2⟩
  · exact sort_nil w
  · by_cases h0 : 0 < zs.length
    · exact sort_row w g cap zs h0 hz (hl g rfl).2 (fun j hj => hI.cell j hj)
    · have e : zs = [] := List.eq_nil_of_length_eq_zero (by omega)
      subst e
      exact sort_empty w _ _
end Go.Proofs.YtinjldagfhbioaaGreatDoor
