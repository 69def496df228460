/- Contract of the program's SortMarks. -/
import Derived.Test.YtlhpkjhinikmmaaDoorIGoods
namespace Go.Proofs.YtlhpkjhinikmmaaDoor
open Go.RowKit

/-- What SortMarks answers. -/
def sortA (zs : List Int) : List Int := if okR zs = true then sortM zs else []

theorem sh_below {w0 w w' : World} {B g cap n : Nat} {l : List Int} (h0 : Below B w0 w) (h : SH w B g cap n l w') (hB : B ≤ w.heap.size) (hg : B ≤ g) : Below B w0 w' :=
  Below.grown h0 h.2.1 hB (fun k hk => by cases hk; exact hg)

set_option maxRecDepth 100000 in
set_option maxHeartbeats 2000000 in
theorem implSort_any {w : World} {B : Nat} {v : Value} {zs : List Int} (hz : zs.length ≤ 1048576) (hI : Ints w B v zs) (hm : Held w 2 marksF) :
    Calls Tryd.prog 11 #[v] w fun e w' => ∃ v', e = .returned (.tuple #[v', .bool (okR zs)]) ∧ Ints w' w.heap.size v' (sortA zs) ∧ Below w.heap.size w w' := by
  have G := goods_any hI
  unfold sortA
  cases hok : okR zs
  · rw [hok] at G
    rw [if_neg (by simp)]
    clear hI hm hok
    go_enter Tryd.func11, Tryd.ntmps11
    go_wp2_with fail
    refine G.mono ?_
    rintro e w1 ⟨rfl, rfl⟩
    clear G
    go_wp2
    go_ret2
    exact ⟨_, rfl, ⟨rfl, .inl ⟨rfl, rfl⟩⟩, Below.refl _ _⟩
  · rw [hok] at G
    rw [if_pos rfl]
    clear hok
    have hlt := hm.lt
    rcases hI.form with ⟨rfl, rfl⟩ | ⟨g0, cap0, rfl, h1, h2⟩
    · have R := fun w => sortRuns_nil w
      clear hI hm
      go_enter Tryd.func11, Tryd.ntmps11
      go_wp2_with fail
      refine G.mono ?_
      rintro e w1 ⟨rfl, rfl⟩
      clear G
      go_wp2_with fail
      refine (R _).mono ?_
      rintro e w2 ⟨rfl, rfl⟩
      go_wp2
      go_ret2
      exact ⟨_, rfl, ⟨rfl, .inl ⟨rfl, rfl⟩⟩, Below.refl _ _⟩
    · by_cases hz0 : zs.length = 0
      · have e0 : zs = [] := List.eq_nil_of_length_eq_zero hz0
        subst e0
        have R := fun w => sortRuns_nil w
        clear hI hm hz0 h1 h2
        go_enter Tryd.func11, Tryd.ntmps11
        go_wp2_with fail
        refine G.mono ?_
        rintro e w1 ⟨rfl, rfl⟩
        clear G
        go_wp2_with fail
        refine (R _).mono ?_
        rintro e w2 ⟨rfl, rfl⟩
        go_wp2
        go_ret2
        exact ⟨_, rfl, ⟨rfl, .inl ⟨rfl, rfl⟩⟩, Below.refl _ _⟩
      · obtain ⟨i0, hi, hzz, hz1, hz2⟩ := info_parts info_int
        have hown0 : w.ownsRow w.heap.size 3 1 (.slice none 0 0) 0 [] := ⟨rfl, .inl ⟨rfl, rfl⟩⟩
        have hc : ∀ j, j < zs.length → w.cell? ⟨g0, j, none⟩ = some (.int .i64 (zs[j]?.getD 0)) := fun j hj => hI.cell j hj
        have hg0 := (World.ownsRow.lt hI g0 rfl).2
        clear hI
        go_enter Tryd.func11, Tryd.ntmps11
        go_wp2_with fail
        refine G.mono ?_
        rintro e w1 ⟨rfl, rfl⟩
        clear G
        go_wp2_with (at_builtin; refine wpList_append_lies _ rfl _ _ 23 rfl w1.heap.size 3 i0 (.int .i64 0) 1 8 Tryd.underlying23 hi hzz hz1 hz2 rfl (by decide) _ 0 [] rfl hown0 ⟨g0, 0, none⟩ zs.length cap0 (zs.map (Value.int .i64)) rfl (by simp) ?hn (fun x hx => by simp at hx; obtain ⟨y, _, rfl⟩ := hx; rfl) (by omega) (by unfold maxLen; omega) (by omega) (Nat.le_refl _) w1.heap.size rfl ?_)
        case hn =>
          intro j a ha
          rw [List.getElem?_map, Option.map_eq_some_iff] at ha
          obtain ⟨y, hy, rfl⟩ := ha
          have hj := (List.getElem?_eq_some_iff.1 hy).1
          have h3 := hc j hj
          rw [hy] at h3
          first
            | exact h3
            | (rw [show (⟨g0, 0, none⟩ : Addr).add j = ⟨g0, j, none⟩ by unfold Addr.add; split <;> simp_all]; exact h3)
        intro g cap w2 hown hgr hgg hlt1
        have hb1 : Below w1.heap.size w1 w2 := Below.grown (Below.refl _ _) hgr (Nat.le_refl _) (fun j hj => by cases hj)
        have hown2 : Own w2 w1.heap.size g cap zs.length zs := hown
        have hgb := (World.ownsRow.lt hown2 g rfl).1
        have R := sortRuns_any w2 w1.heap.size g cap zs.length zs hown2 hlt hz (hm.below hb1 hm.lt)
        clear hgr hgg hc hown0 hown hm
        go_wp2_with fail
        refine R.mono ?_
        rintro e w3 ⟨rfl, hs⟩
        go_wp2
        go_ret2
        refine ⟨_, rfl, ?_, sh_below hb1 hs hb1.size hgb⟩
        have := hs.1
        unfold Own at this
        unfold Ints
        rw [sortM_length]
        exact this
end Go.Proofs.YtlhpkjhinikmmaaDoor
