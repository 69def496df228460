/- Contract of the specification's DrawEncodeRunes: a row of at most 300 integers of its own, whatever the bytes. -/
import Derived.Test.YtahnbomjnnkclaaRunes1
import Derived.OwnWalk
namespace Go.Proofs.Ytahnbomjnnkclaa
open Go.RowKit

/-- Bytes that came in. -/
def Came (w : World) (a : Option Addr) (n : Nat) : Prop :=
  n = 0 ∨ ∃ cb off, a = some ⟨cb, off, none⟩ ∧ cb < w.heap.size ∧ ∀ j, j < n → ∃ x : Int, 0 ≤ x ∧ x ≤ 255 ∧ w.cell? ⟨cb, off + j, none⟩ = some (.int .u8 x)

theorem Came.below {w w' : World} {a : Option Addr} {n : Nat} (h : Came w a n) (hb : Below w.heap.size w w') : Came w' a n := by
  rcases h with h | ⟨cb, off, rfl, h1, h2⟩
  · exact .inl h
  · refine .inr ⟨cb, off, rfl, Nat.lt_of_lt_of_le h1 hb.size, fun j hj => ?_⟩
    obtain ⟨x, x0, x1, hx⟩ := h2 j hj
    exact ⟨x, x0, x1, by rw [hb.cell (p := ⟨cb, off + j, none⟩) h1]; exact hx⟩

theorem cur_new (w : World) (a : Option Addr) (n cap : Nat) (hn : n ≤ 1048576) (h : Came w a n) :
    Cur (w.alloc (.cells #[.slice a n cap, .int .i64 0, .int .u64 0] 38)) (w.heap.size + 1) w.heap.size 0 := by
  refine ⟨a, n, cap, 0, heap_alloc_new w _, by omega, by simp, hn, by omega, by omega, ?_⟩
  rcases h with h | ⟨cb, off, rfl, h1, h2⟩
  · exact .inl h
  · refine .inr ⟨cb, off, rfl, by omega, by omega, fun j hj => ?_⟩
    obtain ⟨x, x0, x1, hx⟩ := h2 j hj
    exact ⟨x, x0, x1, (World.cell?_of_block (w := w) (a := ⟨cb, off + j, none⟩) (Below.heap_alloc _ _ _ h1)).trans hx⟩

theorem cur_below {w w' : World} {o : Obj} (hg : (w.alloc o).grownBy w' (some w.heap.size)) : Below w.heap.size w w' :=
  Below.grown ((Below.refl _ _).alloc (Nat.le_refl _) _) hg (by simp) (fun j hj => by cases hj; exact Nat.le_refl _)

theorem ints_low {w : World} {B B' : Nat} {v : Value} {zs : List Int} (h : Ints w B' v zs) (hB : B ≤ B') : Ints w B v zs := by
  obtain ⟨h1, h2⟩ := h
  refine ⟨h1, ?_⟩
  rcases h2 with h2 | ⟨g, cap, cur, a, b, c⟩
  · exact .inl h2
  · exact .inr ⟨g, cap, cur, a, by omega, c⟩

theorem made_zero (n : Nat) : (madeCells (Value.int .i64 0).cells (n * 1)).toList = (List.replicate n (0 : Int)).map (Value.int .i64) := by
  have h := toList_madeCells_one (Value.int .i64 0) n
  simpa [Value.cells] using h

set_option maxRecDepth 100000 in
set_option maxHeartbeats 2000000 in
theorem drawEnc_any (w : World) (a : Option Addr) (n cap : Nat) (hn : n ≤ 1048576) (h : Came w a n) :
    Calls Try.prog 4 #[.slice a n cap] w fun e w' => ∃ v zs, e = .returned v ∧ Ints w' w.heap.size v zs ∧ zs.length ≤ 300 ∧ Below w.heap.size w w' := by
  obtain ⟨i0, hi, hz0, hz1, hz2⟩ := info_parts info_int
  have hC0 := cur_new w a n cap hn h
  have R := runes_any _ _ _ 0 9 hC0 (by omega) (by omega)
  clear h hC0
  go_enter Try.func4, Try.ntmps4
  go_wp2_with fail
  refine R.mono ?_
  rintro e w1 ⟨v1, zs, rfl, hI, hl, _, ⟨⟨k1, hk1, hC1⟩, hg1⟩⟩
  have hB1 : w.heap.size + 1 ≤ w1.heap.size := hC1.lt.2
  have P := pick_any w1 _ _ k1 hC1 (by omega) 20 (by omega) (by omega)
  have hI1 := ints_low (B := w.heap.size + 1) hI (by simp)
  clear R hI
  go_wp2_with fail
  refine P.mono ?_
  rintro e w2 ⟨x, rfl, x0, x1, ⟨⟨k2, hk2, hC2⟩, hg2⟩⟩
  have hI2 := World.ownsRow.kept hI1 hg2 (ints_ne hI1 (by omega))
  have hg22 := grown_and hg1 hg2
  have hsz2 := hg22.size
  have hsz3 : w.heap.size + 1 ≤ w2.heap.size := hC2.lt.2
  clear P hI1 hg1 hg2
  have hx : x = 0 ∨ x = 1 ∨ 2 ≤ x := by omega
  rcases hx with rfl | rfl | hx
  · go_wp2_with fail
    refine (among_lit w2 _ _ k2 hC2 (by omega) [-1, 55296, 1114112] 3 rfl (by omega) (by omega) _ rfl).mono ?_
    rintro e w3 ⟨y, rfl, hy, ⟨⟨k3, hk3, hC3⟩, hg3⟩⟩
    have hI3 := World.ownsRow.kept hI2 hg3 (ints_ne hI2 (by omega))
    have hg33 := grown_and hg22 hg3
    have hsz4 : w.heap.size + 1 ≤ w3.heap.size := hC3.lt.2
    clear hI2 hg3 hg22 hC2 hy
    go_wp2_with (at_builtin; refine wpList_append_own _ rfl _ _ 23 rfl (w.heap.size + 1) 3 i0 (.int .i64 0) 1 8 Try.underlying23 hi hz0 hz1 hz2 rfl (by decide) _ _ _ rfl (hI3.alloc _) ⟨_, 0, none⟩ 1 1 [.int .i64 y] rfl rfl (cell_one_new _ _ _) (fun x hx => by simp at hx; subst hx; rfl) (by unfold maxLen; omega) (by omega) (by simp; omega) ?_; intro v' w4 hown' hgrow4 _)
    go_ret
    have hb3 := cur_below hg33
    have hb4 := Below.grown (hb3.alloc (by omega) _) hgrow4 (by simp; omega) (fun j hj => by have := (hI3.lt j hj).1; omega)
    exact ⟨_, zs ++ [y], rfl, ints_low (Ints.snoc hown') (by omega), by simp; omega, hb4⟩
  · have P := pick_any w2 _ _ k2 hC2 (by omega) 2 (by omega) (by omega)
    go_wp2_with fail
    refine P.mono ?_
    rintro e w3 ⟨y, rfl, y0, y1, ⟨⟨k3, hk3, hC3⟩, hg3⟩⟩
    obtain ⟨j, rfl⟩ := Int.eq_ofNat_of_zero_le y0
    have hj : j ≤ 1 := by omega
    have hg33 := grown_and hg22 hg3
    have hsz4 : w.heap.size + 1 ≤ w3.heap.size := hC3.lt.2
    clear P hI2 hg3 hg22 hC2 y0 y1
    go_wp2_with (at_make; refine wpList_make_full _ rfl _ _ 23 rfl (w.heap.size + 1) 3 i0 (.int .i64 0) 1 Try.underlying23 hi hz0 hz1 .i64 .i64 _ _ (200 + j) rfl rfl (by omega) (by omega) (by rw [hz2]; omega) (by unfold maxLen; omega) (by omega) ?_; intro w4 hown hgr)
    go_ret
    have hb3 := cur_below hg33
    have hb4 := Below.grown hb3 hgr (by omega) (fun j hj => by cases hj)
    rw [made_zero] at hown
    refine ⟨_, List.replicate (200 + j) 0, rfl, ints_low (B' := w.heap.size + 1) ?_ (by omega), by simp; omega, hb4⟩
    unfold Ints
    simpa using hown
  · go_wp2
    go_ret
    exact ⟨_, zs, rfl, ints_low hI2 (by omega), by omega, cur_below hg22⟩
end Go.Proofs.Ytahnbomjnnkclaa
