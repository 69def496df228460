/- Contracts of the cursor's runeList, of DrawSortMarks and DrawNormalD: a row of at most 300 integers of its own, whatever the bytes. -/
import Derived.Test.YtlhpkjhinikmmaaDoorDraw0
namespace Go.Proofs.YtlhpkjhinikmmaaDoor
open Go.RowKit

def LRel (w : World) (B b K : Nat) (lv i : Value) (wr : World) : Prop :=
  ∃ (j k : Nat) (zs : List Int), j ≤ 149 ∧ i = .int .i64 j ∧ Ints wr w.heap.size lv zs ∧ zs.length = j ∧ k ≤ K + 2 * j ∧ Cur wr B b k ∧ w.grownBy wr (some b)

set_option maxRecDepth 100000 in
set_option maxHeartbeats 4000000 in
theorem runeList_any (w : World) (B b k : Nat) (h : Cur w B b k) (hk : k ≤ 500000000) :
    Calls Tryd.prog 32 #[.pointer (some ⟨b, 0, none⟩)] w fun e w' => ∃ v zs, e = .returned v ∧ Ints w' w.heap.size v zs ∧ zs.length ≤ 300 ∧ Moved w w' B b k 400 := by
  obtain ⟨i0, hi, hz0, hz1, hz2⟩ := info_parts info_int
  have hB := h.lt
  have R := runes_any w B b k 9 h (by omega) (by omega)
  clear h
  go_enter Tryd.func32, Tryd.ntmps32
  go_wp2_with fail
  refine R.mono ?_
  rintro e w1 ⟨v1, zs, rfl, hI1, hl, _, ⟨⟨k1, hk1, hC1⟩, hg1⟩⟩
  have P := pick_any w1 _ _ k1 hC1 (by omega) 40 (by omega) (by omega)
  clear R
  go_wp2_with fail
  refine P.mono ?_
  rintro e w2 ⟨x, rfl, x0, x1, ⟨⟨k2, hk2, hC2⟩, hg2⟩⟩
  have hI2 := World.ownsRow.kept hI1 hg2 (ints_ne hI1 (by omega))
  have hg22 := grown_and hg1 hg2
  have hsz2 := hg22.size
  clear P hI1 hg1 hg2 hC1
  have hx : x = 0 ∨ x = 1 ∨ x = 2 ∨ 3 ≤ x := by omega
  rcases hx with rfl | rfl | rfl | hx
  · go_wp2_with fail
    refine (among_lit w2 _ _ k2 hC2 (by omega) [-1, 55296, 1114112] 3 rfl (by omega) (by omega) _ rfl).mono ?_
    rintro e w3 ⟨y, rfl, hy, ⟨⟨k3, hk3, hC3⟩, hg3⟩⟩
    have hI3 := World.ownsRow.kept hI2 hg3 (ints_ne hI2 (by omega))
    have hg33 := grown_and hg22 hg3
    have hsz3 := hg33.size
    clear hI2 hg3 hg22 hC2 hy
    go_wp2_with (at_builtin; refine wpList_append_own _ rfl _ _ 23 rfl w.heap.size 3 i0 (.int .i64 0) 1 8 Tryd.underlying23 hi hz0 hz1 hz2 rfl (by decide) _ _ _ rfl (hI3.alloc _) ⟨_, 0, none⟩ 1 1 [.int .i64 y] rfl rfl (cell_one_new _ _ _) (fun x hx => by simp at hx; subst hx; rfl) (by unfold maxLen; omega) (by omega) (by simp; omega) ?_; intro v' w4 hown' hgrow4 _)
    go_ret
    have hb4 : ∀ j, _ = some j → B ≤ j := fun j hj => Nat.le_trans hB.2 (hI3.lt j hj).1
    have hC4 := (hC3.kept (World.grownBy_alloc _ _ none) (fun k hk => by cases hk)).kept hgrow4 hb4
    have hg4 := grown_own (grown_own hg33 (World.grownBy_alloc _ _ none) (fun k hk => by cases hk)) hgrow4 (fun j hj => (hI3.lt j hj).1)
    exact ⟨_, zs ++ [y], rfl, Ints.snoc hown', by simp; omega, ⟨k3, by omega, hC4⟩, hg4⟩
  · have P := pick_any w2 _ _ k2 hC2 (by omega) 2 (by omega) (by omega)
    go_wp2_with fail
    refine P.mono ?_
    rintro e w3 ⟨y, rfl, y0, y1, ⟨⟨k3, hk3, hC3⟩, hg3⟩⟩
    obtain ⟨j, rfl⟩ := Int.eq_ofNat_of_zero_le y0
    have hj : j ≤ 1 := by omega
    have hg33 := grown_and hg22 hg3
    have hsz3 := hg33.size
    clear P hI2 hg3 hg22 hC2 y0 y1
    go_wp2_with (at_make; refine wpList_make_full _ rfl _ _ 23 rfl w.heap.size 3 i0 (.int .i64 0) 1 Tryd.underlying23 hi hz0 hz1 .i64 .i64 _ _ (200 + j) rfl rfl (by omega) (by omega) (by rw [hz2]; omega) (by unfold maxLen; omega) (by omega) ?_; intro w4 hown hgr)
    go_ret
    have hC4 := hC3.kept hgr (fun k hk => by cases hk)
    have hg4 := grown_own hg33 hgr (fun j hj => by cases hj)
    rw [made_zero] at hown
    refine ⟨_, List.replicate (200 + j) 0, rfl, ?_, by simp; omega, ⟨k3, by omega, hC4⟩, hg4⟩
    unfold Ints
    simpa using hown
  · clear hI2
    go_wp2_with fail
    go_loopw [3, 4] (fun lv i wr => LRel w B b k2 lv i wr) (fun _ i _ => 150 - (intOf i).toNat)
    case atStart => exact ⟨0, k2, [], by omega, rfl, World.ownsRow_nil _ _ _ _, rfl, by omega, hC2, hg22⟩
    case round =>
      clear hC2 hg22 hsz2
      obtain ⟨j, k3, zs, hj, rfl, hI3, hzl, hk3, hC3, hg3⟩ := hrel
      have P := pick_any wr _ _ k3 hC3 (by omega) 70 (by omega) (by omega)
      go_wp2_with fail
      refine P.mono ?_
      rintro e w4 ⟨y, rfl, y0, y1, ⟨⟨k4, hk4, hC4⟩, hg4⟩⟩
      have hI4 := World.ownsRow.kept hI3 hg4 (ints_ne hI3 (by omega))
      have hg44 := grown_and hg3 hg4
      have hsz4 := hg44.size
      have hw80 : IntKind.i64.wrap (80 + y) = 80 + y := by rw [IntKind.wrap_i64]; omega
      clear P hI3 hg3 hg4 hC3
      by_cases hlt : (j : Int) < 80 + y
      · go_wp2_with (at_builtin; refine wpList_append_own _ rfl _ _ 23 rfl w.heap.size 3 i0 (.int .i64 0) 1 8 Tryd.underlying23 hi hz0 hz1 hz2 rfl (by decide) _ _ _ rfl (hI4.alloc _) ⟨_, 0, none⟩ 1 1 [.int .i64 233] rfl rfl (cell_one_new _ _ _) (fun x hx => by simp at hx; subst hx; rfl) (by unfold maxLen; omega) (by omega) (by simp; omega) ?_; intro v' w5 hown' hgrow5 _)
        have hb5 : ∀ j, _ = some j → B ≤ j := fun j hj => Nat.le_trans hB.2 (hI4.lt j hj).1
        have hC5 := (hC4.kept (World.grownBy_alloc _ _ none) (fun k hk => by cases hk)).kept hgrow5 hb5
        have hg5 := grown_own (grown_own hg44 (World.grownBy_alloc _ _ none) (fun k hk => by cases hk)) hgrow5 (fun j hj => (hI4.lt j hj).1)
        exact ⟨⟨j + 1, k4, zs ++ [233], by omega, by go_num, Ints.snoc hown', by simp; omega, by omega, hC5, hg5⟩, by simp [intOf]; omega⟩
      · go_wp2
        go_ret
        exact ⟨_, zs, rfl, hI4, by omega, ⟨k4, by omega, hC4⟩, hg44⟩
  · go_wp2
    go_ret
    exact ⟨_, zs, rfl, hI2, by omega, ⟨k2, by omega, hC2⟩, hg22⟩

set_option maxRecDepth 100000 in
set_option maxHeartbeats 1000000 in
theorem drawSort_any (w : World) (a : Option Addr) (n cap : Nat) (hn : n ≤ 1048576) (h : Came w a n) :
    Calls Tryd.prog 16 #[.slice a n cap] w fun e w' => ∃ v zs, e = .returned v ∧ Ints w' w.heap.size v zs ∧ zs.length ≤ 300 ∧ Below w.heap.size w w' := by
  have hC0 := cur_new w a n cap hn h
  have R := runeList_any _ _ _ 0 hC0 (by omega)
  clear h hC0
  go_enter Tryd.func16, Tryd.ntmps16
  go_wp2_with fail
  refine R.mono ?_
  rintro e w1 ⟨v1, zs, rfl, hI, hl, ⟨_, hg1⟩⟩
  clear R
  go_wp2
  go_ret
  exact ⟨_, zs, rfl, ints_low hI (by simp), hl, cur_below hg1⟩

set_option maxRecDepth 100000 in
set_option maxHeartbeats 1000000 in
theorem drawNormal_any (w : World) (a : Option Addr) (n cap : Nat) (hn : n ≤ 1048576) (h : Came w a n) :
    Calls Tryd.prog 5 #[.slice a n cap] w fun e w' => ∃ v zs, e = .returned v ∧ Ints w' w.heap.size v zs ∧ zs.length ≤ 300 ∧ Below w.heap.size w w' := by
  have R := drawSort_any w a n cap hn h
  clear h
  go_enter Tryd.func5, Tryd.ntmps5
  go_wp2_with fail
  refine R.mono ?_
  rintro e w1 ⟨v1, zs, rfl, hI, hl, hb⟩
  clear R
  go_wp2
  go_ret
  exact ⟨_, zs, rfl, hI, hl, hb⟩
end Go.Proofs.YtlhpkjhinikmmaaDoor
