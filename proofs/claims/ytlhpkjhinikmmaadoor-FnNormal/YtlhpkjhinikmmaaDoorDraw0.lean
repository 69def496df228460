/- A new cursor over bytes that came in. -/
import Derived.Test.YtlhpkjhinikmmaaDoorRunes1
import Derived.OwnWalk
namespace Go.Proofs.YtlhpkjhinikmmaaDoor
open Go.RowKit

/-- Bytes that came in. -/
def Came (w : World) (a : Option Addr) (n : Nat) : Prop :=
  n = 0 ∨ ∃ cb off, a = some ⟨cb, off, none⟩ ∧ cb < w.heap.size ∧ ∀ j, j < n → ∃ x : Int, 0 ≤ x ∧ x ≤ 255 ∧ w.cell? ⟨cb, off + j, none⟩ = some (.int .u8 x)

theorem Came.below {w w' : World} {a : Option Addr} {n : Nat} (h : Came w a n) (hb : Below w.heap.size w w') : Came w' a n := by
  rcases h with h | ⟨cb, off, rfl, h1, h2⟩
  · exact .inl h
  · refine .inr ⟨cb, off, rfl, Nat.lt_of_lt_of_le h1 hb.size, fun j hj => ?_⟩
    obtain ⟨x, x0, x1, hx⟩ := h2 j hj
    exact ⟨x, x0, x1, by rw [hb.cell (p := ⟨cb, off + j, none⟩) h1]; exact hx⟩

theorem cur_new (w : World) (a : Option Addr) (n cap : Nat) (hn : n ≤ 1048576) (h : Came w a n) :
    Cur (w.alloc (.cells #[.slice a n cap, .int .i64 0, .int .u64 0] 42)) (w.heap.size + 1) w.heap.size 0 := by
  refine ⟨a, n, cap, 0, heap_alloc_new w _, by omega, by simp, hn, by omega, by omega, ?_⟩
  rcases h with h | ⟨cb, off, rfl, h1, h2⟩
  · exact .inl h
  · refine .inr ⟨cb, off, rfl, by omega, by omega, fun j hj => ?_⟩
    obtain ⟨x, x0, x1, hx⟩ := h2 j hj
    exact ⟨x, x0, x1, (World.cell?_of_block (w := w) (a := ⟨cb, off + j, none⟩) (Below.heap_alloc _ _ _ h1)).trans hx⟩

theorem cur_below {w w' : World} {o : Obj} (hg : (w.alloc o).grownBy w' (some w.heap.size)) : Below w.heap.size w w' :=
  Below.grown ((Below.refl _ _).alloc (Nat.le_refl _) _) hg (by simp) (fun j hj => by cases hj; exact Nat.le_refl _)

theorem ints_low {w : World} {B B' : Nat} {v : Value} {zs : List Int} (h : Ints w B' v zs) (hB : B ≤ B') : Ints w B v zs := by
  obtain ⟨h1, h2⟩ := h
  refine ⟨h1, ?_⟩
  rcases h2 with h2 | ⟨g, cap, cur, a, b, c⟩
  · exact .inl h2
  · exact .inr ⟨g, cap, cur, a, by omega, c⟩

theorem made_zero (n : Nat) : (madeCells (Value.int .i64 0).cells (n * 1)).toList = (List.replicate n (0 : Int)).map (Value.int .i64) := by
  have h := toList_madeCells_one (Value.int .i64 0) n
  simpa [Value.cells] using h
end Go.Proofs.YtlhpkjhinikmmaaDoor
