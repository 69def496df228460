/- Contracts of the cursor's rune and runes: good runes, in memory of their own. -/
import Derived.Test.YtlhpkjhinikmmaaDoorCur
import Derived.Test.YtlhpkjhinikmmaaDoorGood
import Derived.BigCall
namespace Go.Proofs.YtlhpkjhinikmmaaDoor
open Go.RowKit

theorem Moved.up {w w' : World} {B b k m m' : Nat} (h : Moved w w' B b k m) (hm : m ≤ m') : Moved w w' B b k m' := by
  obtain ⟨⟨k', h1, h2⟩, h3⟩ := h
  exact ⟨⟨k', by omega, h2⟩, h3⟩

theorem Moved.then {w w1 w2 : World} {B b k m : Nat} (h : Moved w w1 B b k m) {m2 : Nat} (h2 : ∀ k', k' ≤ k + m → Cur w1 B b k' → Moved w1 w2 B b k' m2) : Moved w w2 B b k (m + m2) := by
  obtain ⟨⟨k', a1, a2⟩, a3⟩ := h
  obtain ⟨⟨k2, b1, b2⟩, b3⟩ := h2 k' a1 a2
  exact ⟨⟨k2, by omega, b2⟩, grown_and a3 b3⟩

theorem below_grows {w w' : World} (h : Below w.heap.size w w') (row : Option Nat) : w.grownBy w' row := ⟨h.os, h.tape, h.output, h.size, fun k hk _ => h.block k hk⟩

theorem ints_ne {w : World} {B b : Nat} {v : Value} {zs : List Int} (h : Ints w B v zs) (hb : b < B) : v.ownBlock = none ∨ v.ownBlock ≠ some b := by
  cases c : v.ownBlock with
  | none => exact .inl rfl
  | some g =>
    refine .inr fun e => ?_
    have := (World.ownsRow.lt h g c).1
    have := Option.some.inj e
    omega

theorem among_lit (w : World) (B b k : Nat) (h : Cur w B b k) (hk : k ≤ 1000000000) (zs : List Int) (m : Nat) (hz : zs.length = m) (hm0 : 0 < m) (hm : m ≤ 1048576) (cs : Array Value) (hcs : cs = (zs.map (Value.int .i64)).toArray) :
    Calls Tryd.prog 43 #[.pointer (some ⟨b, 0, none⟩), .slice (some ⟨w.heap.size, 0, none⟩) m m] (w.alloc (.cells cs 3)) fun e w' => ∃ x : Int, e = .returned (.int .i64 x) ∧ x ∈ zs ∧ Moved w w' B b k 2 := by
  have hl := h.lt
  have ga := World.grownBy_alloc w (.cells cs 3) none
  have hC := h.kept ga (fun k hk => by cases hk)
  refine (among_any (w.alloc (.cells cs 3)) B b k hC hk w.heap.size m m zs hz hm0 hm (by simp) (by omega) (fun j hj => ?_)).mono ?_
  · rw [World.cell?_alloc_new, hcs]
    simp [hz, hj]
  · rintro e w' ⟨x, rfl, hx, hM⟩
    exact ⟨x, rfl, hx, hM.1, grown_and (World.grownBy_alloc w _ _) hM.2⟩

set_option maxRecDepth 100000 in
set_option maxHeartbeats 2000000 in
theorem rune_any (w : World) (B b k : Nat) (h : Cur w B b k) (hk : k ≤ 900000000) :
    Calls Tryd.prog 27 #[.pointer (some ⟨b, 0, none⟩)] w fun e w' => ∃ x : Int, e = .returned (.int .i64 x) ∧ goodB x = true ∧ Moved w w' B b k 6 := by
  have N := pick_any w B b k h (by omega) 8 (by omega) (by omega)
  clear h
  go_enter Tryd.func27, Tryd.ntmps27
  go_wp2_with fail
  refine N.mono ?_
  rintro e w1 ⟨x, rfl, x0, x1, ⟨⟨k1, hk1, hC⟩, hg⟩⟩
  have hx : x = 0 ∨ x = 1 ∨ x = 2 ∨ x = 3 ∨ 4 ≤ x := by omega
  clear N
  rcases hx with rfl | rfl | rfl | rfl | hx
  · go_wp2_with fail
    refine (among_lit w1 B b k1 hC (by omega) [32, 45, 49, 57, 46, 95] 6 rfl (by omega) (by omega) _ rfl).mono ?_
    rintro e w2 ⟨y, rfl, hy, ⟨⟨k2, hk2, hC2⟩, hg2⟩⟩
    go_wp2
    go_ret
    exact ⟨y, rfl, (by decide : ∀ z ∈ [32, 45, 49, 57, 46, 95], goodB z = true) y hy, ⟨k2, by omega, hC2⟩, grown_and hg hg2⟩
  · go_wp2_with fail
    refine (among_lit w1 B b k1 hC (by omega) [233, 201, 229, 197, 231, 241, 252, 8491, 7845, 7785, 226] 11 rfl (by omega) (by omega) _ rfl).mono ?_
    rintro e w2 ⟨y, rfl, hy, ⟨⟨k2, hk2, hC2⟩, hg2⟩⟩
    go_wp2
    go_ret
    exact ⟨y, rfl, (by decide : ∀ z ∈ [233, 201, 229, 197, 231, 241, 252, 8491, 7845, 7785, 226], goodB z = true) y hy, ⟨k2, by omega, hC2⟩, grown_and hg hg2⟩
  · go_wp2_with fail
    refine (among_lit w1 B b k1 hC (by omega) [768, 769, 776, 778, 803, 807, 770, 775] 8 rfl (by omega) (by omega) _ rfl).mono ?_
    rintro e w2 ⟨y, rfl, hy, ⟨⟨k2, hk2, hC2⟩, hg2⟩⟩
    go_wp2
    go_ret
    exact ⟨y, rfl, (by decide : ∀ z ∈ [768, 769, 776, 778, 803, 807, 770, 775], goodB z = true) y hy, ⟨k2, by omega, hC2⟩, grown_and hg hg2⟩
  · go_wp2_with fail
    refine (oneIn_any w1 B b k1 hC (by omega) 3 (by omega) (by omega)).mono ?_
    rintro e w2 ⟨bo, rfl, ⟨⟨k2, hk2, hC2⟩, hg2⟩⟩
    cases bo
    · go_wp2_with fail
      refine (among_lit w2 B b k2 hC2 (by omega) [97, 98, 99, 104, 108, 122, 65, 67, 101, 111, 110, 97] 12 rfl (by omega) (by omega) _ rfl).mono ?_
      rintro e w3 ⟨y, rfl, hy, ⟨⟨k3, hk3, hC3⟩, hg3⟩⟩
      go_wp2
      go_ret
      exact ⟨y, rfl, (by decide : ∀ z ∈ [97, 98, 99, 104, 108, 122, 65, 67, 101, 111, 110, 97], goodB z = true) y hy, ⟨k3, by omega, hC3⟩, grown_and hg (grown_and hg2 hg3)⟩
    · go_wp2_with fail
      refine (among_lit w2 B b k2 hC2 (by omega) [44032, 44033, 55203, 4352, 4449, 4520, 19968, 1114111, 128512, 3, 127, 65533] 12 rfl (by omega) (by omega) _ rfl).mono ?_
      rintro e w3 ⟨y, rfl, hy, ⟨⟨k3, hk3, hC3⟩, hg3⟩⟩
      go_wp2
      go_ret
      exact ⟨y, rfl, (by decide : ∀ z ∈ [44032, 44033, 55203, 4352, 4449, 4520, 19968, 1114111, 128512, 3, 127, 65533], goodB z = true) y hy, ⟨k3, by omega, hC3⟩, grown_and hg (grown_and hg2 hg3)⟩
  · go_wp2_with fail
    refine (among_lit w1 B b k1 hC (by omega) [97, 98, 99, 104, 108, 122, 65, 67, 101, 111, 110, 97] 12 rfl (by omega) (by omega) _ rfl).mono ?_
    rintro e w3 ⟨y, rfl, hy, ⟨⟨k3, hk3, hC3⟩, hg3⟩⟩
    go_wp2
    go_ret
    exact ⟨y, rfl, (by decide : ∀ z ∈ [97, 98, 99, 104, 108, 122, 65, 67, 101, 111, 110, 97], goodB z = true) y hy, ⟨k3, by omega, hC3⟩, grown_and hg hg3⟩

def RunesRel (w : World) (B b K m : Nat) (v n : Value) (wr : World) : Prop :=
  ∃ (j k : Nat) (zs : List Int), n = .int .i64 j ∧ Ints wr w.heap.size v zs ∧ zs.length + j ≤ m ∧ (∀ x ∈ zs, goodB x = true) ∧ k + 6 * j ≤ K ∧ Cur wr B b k ∧ w.grownBy wr (some b)

set_option maxRecDepth 100000 in
set_option maxHeartbeats 2000000 in
theorem runes_any (w : World) (B b k m : Nat) (h : Cur w B b k) (hk : k ≤ 800000000) (hm : m ≤ 1000) :
    Calls Tryd.prog 48 #[.pointer (some ⟨b, 0, none⟩), .int .i64 (m : Int)] w fun e w' => ∃ v zs, e = .returned v ∧ Ints w' w.heap.size v zs ∧ zs.length ≤ m ∧ (∀ x ∈ zs, goodB x = true) ∧ Moved w w' B b k (2 + 6 * m) := by
  obtain ⟨i0, hi, hz0, hz1, hz2⟩ := info_parts info_int
  have hB := h.lt
  have N := pick_any w B b k h (by omega) ((m : Int) + 1) (by omega) (by omega)
  clear h
  go_enter Tryd.func48, Tryd.ntmps48
  go_wp2_with fail
  refine N.mono ?_
  rintro e w1 ⟨x, rfl, x0, x1, ⟨⟨k1, hk1, hC⟩, hg⟩⟩
  obtain ⟨j0, rfl⟩ := Int.eq_ofNat_of_zero_le x0
  have hj0 : j0 ≤ m := by omega
  clear N x0 x1
  go_wp2_with fail
  go_loopw [5, 6] (fun v n wr => RunesRel w B b (k + 2 + 6 * m) m v n wr) (fun _ n _ => (intOf n).toNat)
  case atStart => exact ⟨j0, k1, [], rfl, World.ownsRow_nil _ _ _ _, by simp; omega, by simp, by omega, hC, hg⟩
  case round =>
    clear hC hg hk1
    obtain ⟨j, k2, zs, rfl, hI, hl, hgd, hk2, hC2, hg2⟩ := hrel
    have HG : Hid _ := hgd
    clear hgd
    by_cases hj : 0 < j
    · have R := rune_any wr B b k2 hC2 (by omega)
      have hsz := hg2.size
      go_wp2_with fail
      refine R.mono ?_
      rintro e w3 ⟨y, rfl, hy, ⟨⟨k3, hk3, hC3⟩, hg3⟩⟩
      have hI3 := World.ownsRow.kept hI hg3 (ints_ne hI (by omega))
      have hg33 := grown_and hg2 hg3
      have HY : Hid _ := hy
      have hsz3 := hg33.size
      clear R hI hg3 hy hg2 hC2
      go_wp2_with (at_builtin; refine wpList_append_own _ rfl _ _ 23 rfl w.heap.size 3 i0 (.int .i64 0) 1 8 Tryd.underlying23 hi hz0 hz1 hz2 rfl (by decide) _ _ _ rfl (hI3.alloc _) ⟨_, 0, none⟩ 1 1 [.int .i64 y] rfl rfl (cell_one_new _ _ _) (fun x hx => by simp at hx; subst hx; rfl) (by unfold maxLen; omega) (by omega) (by simp; omega) ?_; intro v' w4 hown' hgrow4 _)
      have hb4 : ∀ j, _ = some j → B ≤ j := fun j hj => Nat.le_trans hB.2 (hI3.lt j hj).1
      have hC4 := (hC3.kept (World.grownBy_alloc _ _ none) (fun k hk => by cases hk)).kept hgrow4 hb4
      have hg4 := grown_own (grown_own hg33 (World.grownBy_alloc _ _ none) (fun k hk => by cases hk)) hgrow4 (fun j hj => (hI3.lt j hj).1)
      refine ⟨⟨j - 1, k3, zs ++ [y], by go_num, Ints.snoc hown', by simp; omega, ?_, by omega, hC4, hg4⟩, by simp [intOf]; omega⟩
      intro z hz
      rcases List.mem_append.1 hz with h | h
      · exact HG.out z h
      · rw [List.mem_singleton.1 h]; exact HY.out
    · have hj0 : j = 0 := by omega
      subst hj0
      go_wp2
      go_ret
      exact ⟨_, zs, rfl, hI, by omega, HG.out, ⟨k2, by omega, hC2⟩, hg2⟩
end Go.Proofs.YtlhpkjhinikmmaaDoor
