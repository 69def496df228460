/- The loop of putting together, both sides': its relation, and its steps. -/
import Derived.Test.YtlhpkjhinikmmaaDoorSD
import Derived.Test.YtlhpkjhinikmmaaDoorISort
namespace Go.Proofs.YtlhpkjhinikmmaaDoor
open Go.RowKit

theorem step_no (s : List Int × Nat) (r : Int) : stepBy false s r = push s r := rfl
theorem step_some {s : List Int × Nat} {r x : Int} (h : tog (at0 s.1 (s.2 - 1)) r = some x) : stepBy true s r = (s.1.set (s.2 - 1) x, s.2) := by
  unfold stepBy; rw [if_pos rfl, h]
theorem step_none {s : List Int × Nat} {r : Int} (h : tog (at0 s.1 (s.2 - 1)) r = none) : stepBy true s r = push s r := by
  unfold stepBy; rw [if_pos rfl, h]

/-- So far put together: the first k runes. -/
def CRel (st : Nat → List Int × Nat) (w : World) (n : Nat) (out last i : Value) (wr : World) : Prop :=
  ∃ k : Nat, k ≤ n ∧ i = .int .i64 k ∧ last = .int .i64 (((st k).2 : Int) - 1) ∧ Ints wr w.heap.size out (st k).1 ∧ Below w.heap.size w wr

theorem crel_start {st : Nat → List Int × Nat} {w w3 : World} {n k N : Nat} {os : List Int} {q : Nat} {r : Int} {g cap : Nat} (hk : k < n) (hs : st (k + 1) = push (os, q) r) (hr : cls r = 0) (hN : os.length = N)
    (hown : w3.ownsRow w.heap.size 3 1 (.slice (some ⟨g, 0, none⟩) (N + 1) cap) (N + 1) (os.map (Value.int .i64) ++ [.int .i64 r])) (hb : Below w.heap.size w w3) :
    CRel st w n (.slice (some ⟨g, 0, none⟩) (N + 1) cap) (.int .i64 (N : Int)) (.int .i64 ((k : Int) + 1)) w3 := by
  subst hN
  refine ⟨k + 1, hk, by go_num, ?_, ?_, hb⟩
  · rw [hs]; simp only [push, if_pos hr]; congr 1; omega
  · rw [hs]; exact Ints.snoc hown

theorem crel_mark {st : Nat → List Int × Nat} {w w3 : World} {n k N : Nat} {os : List Int} {q : Nat} {r : Int} {g cap : Nat} (hk : k < n) (hs : st (k + 1) = push (os, q) r) (hr : ¬ cls r = 0) (hN : os.length = N)
    (hown : w3.ownsRow w.heap.size 3 1 (.slice (some ⟨g, 0, none⟩) (N + 1) cap) (N + 1) (os.map (Value.int .i64) ++ [.int .i64 r])) (hb : Below w.heap.size w w3) {z : Int} (hz : z = (q : Int) - 1) :
    CRel st w n (.slice (some ⟨g, 0, none⟩) (N + 1) cap) (.int .i64 z) (.int .i64 ((k : Int) + 1)) w3 := by
  subst hN
  subst hz
  refine ⟨k + 1, hk, by go_num, ?_, ?_, hb⟩
  · rw [hs]; simp only [push, if_neg hr]
  · rw [hs]; exact Ints.snoc hown

theorem crel_store {st : Nat → List Int × Nat} {w w2 : World} {n k N p : Nat} {os : List Int} {x : Int} {g cap : Nat} (hk : k < n) (hs : st (k + 1) = (os.set p x, p + 1)) (hN : os.length = N)
    (ho : Ints w2 w.heap.size (.slice (some ⟨g, 0, none⟩) N cap) os) (hb : Below w.heap.size w w2) :
    CRel st w n (.slice (some ⟨g, 0, none⟩) N cap) (.int .i64 (p : Int)) (.int .i64 ((k : Int) + 1)) (w2.setCell ⟨g, p, none⟩ (.int .i64 x)) := by
  subst hN
  have h1 := World.ownsRow.stored ho p (.int .i64 x)
  refine ⟨k + 1, hk, by go_num, ?_, ?_, Below.grown hb h1.2 hb.size (fun j hj => by cases hj; exact (World.ownsRow.lt ho g rfl).1)⟩
  · rw [hs]; simp only; congr 1; omega
  · rw [hs]
    have h2 := h1.1
    unfold Ints
    rw [List.length_set, List.map_set]
    exact h2

theorem grown_below {w wr w3 : World} {out : Value} {os : List Int} (ho : Ints wr w.heap.size out os) (hb : Below w.heap.size w wr) (o : Obj) (hgr : (wr.alloc o).grownBy w3 out.ownBlock) : Below w.heap.size w w3 :=
  Below.grown (hb.alloc hb.size _) hgr (hb.alloc hb.size _).size (fun j hj => (World.ownsRow.lt ho j hj).1)

theorem at0_mem {zs : List Int} {k : Nat} {x : Int} (h : zs[k]? = some x) : at0 zs k = x := by simp [at0, h]
end Go.Proofs.YtlhpkjhinikmmaaDoor
