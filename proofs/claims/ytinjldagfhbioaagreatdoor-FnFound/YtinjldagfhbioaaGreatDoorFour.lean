/- The fourth weights, without memory; rows of elems that grow. -/
import Derived.Test.YtinjldagfhbioaaGreatDoorEl
namespace Go.Proofs.YtinjldagfhbioaaGreatDoor
open Go.RowKit

def elZ : El := ⟨0, 0, 0, false⟩

/-- One elem: its fourth weight, how it counts, and whether one that varies stands behind. -/
def four1 (sh beh : Bool) (e : El) : Int × El × Bool :=
  if sh = false then (65535, e, beh)
  else if e.varies = true then (e.first, elZ, true)
  else if e.first = 0 ∧ beh = true then (0, elZ, beh)
  else ((if e.first = 0 ∧ e.second = 0 ∧ e.third = 0 then 0 else 65535), e, if e.first = 0 then beh else false)

/-- What is known behind the first k elems. -/
def fourS (sh : Bool) (es : List El) : Nat → List Int × List El × Bool
  | 0 => ([], [], false)
  | k + 1 =>
    match es[k]? with
    | none => fourS sh es k
    | some e => ((fourS sh es k).1 ++ [(four1 sh (fourS sh es k).2.2 e).1], (fourS sh es k).2.1 ++ [(four1 sh (fourS sh es k).2.2 e).2.1], (four1 sh (fourS sh es k).2.2 e).2.2)

def fourths (sh : Bool) (es : List El) : List Int := (fourS sh es es.length).1
def counted (sh : Bool) (es : List El) : List El := (fourS sh es es.length).2.1

theorem fourS_succ {sh : Bool} {es : List El} {k : Nat} {e : El} {fs : List Int} {xs : List El} {b : Bool} (he : es[k]? = some e) (h : fourS sh es k = (fs, xs, b)) :
    fourS sh es (k + 1) = (fs ++ [(four1 sh b e).1], xs ++ [(four1 sh b e).2.1], (four1 sh b e).2.2) := by
  rw [fourS, he, h]

theorem fourS_len (sh : Bool) (es : List El) (k : Nat) : (fourS sh es k).1.length ≤ k ∧ (fourS sh es k).2.1.length ≤ k := by
  induction k with
  | zero => exact ⟨Nat.le_refl _, Nat.le_refl _⟩
  | succ k ih =>
    unfold fourS
    split
    · omega
    · simp; omega

theorem info_elem : (Tryz.prog.info? 72).map (fun i => (i.zero, i.size, i.bytes)) = some (some (.agg #[.int .i64 0, .int .i64 0, .int .i64 0, .bool false]), 4, 32) := by kernel_rfl

theorem elAll_snoc (es : List El) (e : El) : elAll (es ++ [e]) = elAll es ++ elC e := by simp [elAll]

theorem Elems.snoc {w : World} {B : Nat} {v : Value} {es : List El} {e : El} (h : w.ownsRow B 72 4 v (es.length + 1) (elAll es ++ elC e)) : Elems w B v (es ++ [e]) := by
  unfold Elems
  rw [elAll_snoc, List.length_append]
  exact h

theorem cells4_at (w : World) (n : Nat) (e : El) (t : TypeId) (hn : n = w.heap.size) : ∀ j u, (elC e)[j]? = some u → (w.alloc (.cells #[.int .i64 e.first, .int .i64 e.second, .int .i64 e.third, .bool e.varies] t)).cell? ((⟨n, 0, none⟩ : Addr).add j) = some u := by
  subst hn
  intro j u hj
  match j, hj with
  | 0, hj => simp [elC] at hj; subst hj; simp [Addr.add]
  | 1, hj => simp [elC] at hj; subst hj; simp [Addr.add]
  | 2, hj => simp [elC] at hj; subst hj; simp [Addr.add]
  | 3, hj => simp [elC] at hj; subst hj; simp [Addr.add]
  | j + 4, hj => simp [elC] at hj

theorem cells1_at (w : World) (n : Nat) (x : Value) (t : TypeId) (hn : n = w.heap.size) : ∀ j u, [x][j]? = some u → (w.alloc (.cells #[x] t)).cell? ((⟨n, 0, none⟩ : Addr).add j) = some u := by
  subst hn
  intro j u hj
  match j, hj with
  | 0, hj => simp at hj; subst hj; simp [Addr.add]

theorem four1_plain {b : Bool} {e : El} : four1 false b e = (65535, e, b) := by simp [four1]
theorem four1_var {b : Bool} {e : El} (h : e.varies = true) : four1 true b e = (e.first, elZ, true) := by simp [four1, h]
theorem four1_gone {e : El} (h : e.varies = false) (h0 : e.first = 0) : four1 true true e = (0, elZ, true) := by simp [four1, h, h0]
theorem four1_first {b : Bool} {e : El} (h : e.varies = false) (h0 : e.first ≠ 0) : four1 true b e = (65535, e, false) := by simp [four1, h, h0]
theorem four1_zero {e : El} (h : e.varies = false) (h0 : e.first = 0) (h1 : e.second = 0) (h2 : e.third = 0) : four1 true false e = (0, e, false) := by simp [four1, h, h0, h1, h2]
theorem four1_some {e : El} (h : e.varies = false) (h0 : e.first = 0) (h1 : ¬ (e.second = 0 ∧ e.third = 0)) : four1 true false e = (65535, e, false) := by simp [four1, h, h0, h1]
end Go.Proofs.YtinjldagfhbioaaGreatDoor
