/- A drawn Row in its box: the block that is still zero, the block that is filled, and what the cursor's moves leave as it was. -/
import Derived.Test.YtbgomhgohphglaaDoorCurD6
import Derived.Test.YtbgomhgohphglaaDoorCell6
import Derived.Test.YtbgomhgohphglaaDoorRwApp
namespace Go.Proofs.YtbgomhgohphglaaDoor
open Go.RowKit

theorem below_gR {w w' : World} (h : Below w.heap.size w w') (row : Option Nat) : w.grownBy w' row := ⟨h.os, h.tape, h.output, h.size, fun k hk _ => h.block k hk⟩

def txR (zs : List Int) : ByteArray := ⟨(zs.map fun x => x.toNat.toUInt8).toArray⟩

theorem Cur.allocR {w : World} {B b k : Nat} (h : Cur w B b k) (o : Obj) : Cur (w.alloc o) B b k := h.kept (World.grownBy_alloc w o none) (fun k hk => by cases hk)
theorem grownR {w u : World} {o : Obj} {r : Option Nat} (h : (w.alloc o).grownBy u r) : w.grownBy u r := (World.grownBy_alloc w o r).trans h

/-- A Row's block, still zero. -/
def BoxY (u : World) (p : Nat) : Prop := u.heap[p]? = some (.cells #[.string ⟨#[]⟩, .string ⟨#[]⟩, .string ⟨#[]⟩] 32)
theorem boxy_new (w : World) : BoxY (w.alloc (.cells #[.string ⟨#[]⟩, .string ⟨#[]⟩, .string ⟨#[]⟩] 32)) w.heap.size := heap_alloc_new w _
theorem BoxY.facts {u : World} {b : Nat} (h : BoxY u b) : b < u.heap.size ∧ u.cell? ⟨b, 0, none⟩ = some (.string ⟨#[]⟩) ∧ u.cell? ⟨b, 1, none⟩ = some (.string ⟨#[]⟩) ∧ u.cell? ⟨b, 2, none⟩ = some (.string ⟨#[]⟩) ∧ ∀ j, u.frozen? ⟨b, j, none⟩ = false :=
  ⟨(Array.getElem?_eq_some_iff.1 h).1, cell_of_row _ _ 0 _ _ _ h, cell_of_row _ _ 1 _ _ _ h, cell_of_row _ _ 2 _ _ _ h, fun j => by
    have h' : u.heap[b]? = _ := h
    simp [World.frozen?, h']⟩
theorem BoxY.kept {u u' : World} {b p : Nat} (h : BoxY u p) (hg : u.grownBy u' (some b)) (hn : p ≠ b) : BoxY u' p := (hg.block p h.facts.1 (fun e => hn (Option.some.inj e))).trans h
theorem BoxY.store {u : World} {p : Nat} (h : BoxY u p) (x : Rw) : BoxR6 (((u.setCell ⟨p, 0, none⟩ (.string x.key)).setCell ⟨p, 1, none⟩ (.string x.text)).setCell ⟨p, 2, none⟩ (.string x.val)) p x := by
  have h' : u.heap[p]? = some (.cells [Value.string ⟨#[]⟩, .string ⟨#[]⟩, .string ⟨#[]⟩].toArray 32 (0, 0)) := h
  have e := row_set6 (k := 2) (.string x.val) (row_set6 (k := 1) (.string x.text) (row_set6 (k := 0) (.string x.key) h'))
  exact e
theorem grown_storeR (u : World) (p : Nat) (x y z : Value) : u.grownBy (((u.setCell ⟨p, 0, none⟩ x).setCell ⟨p, 1, none⟩ y).setCell ⟨p, 2, none⟩ z) (some p) := ((grown_set6 u p 0 x).trans (grown_set6 _ p 1 y)).trans (grown_set6 _ p 2 z)

theorem box_val {u : World} {p : Nat} {x : Rw} (h : BoxR6 u p x) (s : ByteArray) : BoxR6 (u.setCell ⟨p, 2, none⟩ (.string s)) p ⟨x.key, x.text, s⟩ := by
  have h' : u.heap[p]? = some (.cells [Value.string x.key, .string x.text, .string x.val].toArray 32 (0, 0)) := h
  exact row_set6 (k := 2) (.string s) h'
theorem box_melt {u : World} {p : Nat} {x : Rw} (h : BoxR6 u p x) : ∀ j, u.frozen? ⟨p, j, none⟩ = false := fun j => by
  have h' : u.heap[p]? = _ := h
  simp [World.frozen?, h']
theorem BoxR6.keptR {u u' : World} {r : Option Nat} {p : Nat} {x : Rw} (h : BoxR6 u p x) (hg : u.grownBy u' r) (hn : some p ≠ r) : BoxR6 u' p x := (hg.block p h.lt hn).trans h
theorem Byz.keptR {w w' : World} {B b : Nat} {v : Value} {zs : List Int} (h : Byz w B v zs) (hg : w.grownBy w' (some b)) (hb : b < B) : Byz w' B v zs := World.ownsRow.kept h hg (own_ne h hb)

theorem rws_neR {w : World} {B b e n : Nat} {v : Value} {xs : List Value} (h : w.ownsRow B e 3 v n xs) (hb : b < B) : v.ownBlock = none ∨ v.ownBlock ≠ some b := by
  cases c : v.ownBlock with
  | none => exact .inl rfl
  | some g =>
    refine .inr fun e => ?_
    have := (h.lt g c).1
    have := Option.some.inj e
    omega
theorem Rws.keptR {w w' : World} {B b : Nat} {v : Value} {l : List Rw} (h : Rws w B v l) (hg : w.grownBy w' (some b)) (hb : b < B) : Rws w' B v l := World.ownsRow.kept h hg (rws_neR h hb)

/-- Behind the drawing of a row. -/
def RowAtR (wr wx : World) (B b k : Nat) (v : Value) : Prop :=
  ∃ (bx k' : Nat) (x : Rw), v = .pointer (some ⟨bx, 0, none⟩) ∧ wr.heap.size ≤ bx ∧ BoxR6 wx bx x ∧ k' ≤ k + 20 ∧ Cur wx B b k' ∧ wr.grownBy wx (some b)

theorem rowAt_oldR {wr w5 : World} {B b k k5 p : Nat} {x : Rw} (hz : BoxY w5 p) (hp : B ≤ p) (hw : wr.heap.size ≤ p) (hk : k5 ≤ k + 20) (hC : Cur w5 B b k5) (hg : wr.grownBy w5 (some b)) :
    RowAtR wr (((w5.setCell ⟨p, 0, none⟩ (.string x.key)).setCell ⟨p, 1, none⟩ (.string x.text)).setCell ⟨p, 2, none⟩ (.string x.val)) B b k (.pointer (some ⟨p, 0, none⟩)) :=
  ⟨p, k5, x, rfl, hw, hz.store x, hk, hC.kept (grown_storeR w5 p _ _ _) (fun j hj => by have := Option.some.inj hj; omega), grown_own hg (grown_storeR w5 p _ _ _) (fun j hj => by have := Option.some.inj hj; omega)⟩

theorem rowAt_newR {wr w5 : World} {B b k k5 : Nat} {x : Rw} (hk : k5 ≤ k + 20) (hC : Cur w5 B b k5) (hg : wr.grownBy w5 (some b)) :
    RowAtR wr (w5.alloc (.cells #[.string x.key, .string x.text, .string x.val] 32)) B b k (.pointer (some ⟨w5.heap.size, 0, none⟩)) :=
  ⟨w5.heap.size, k5, x, rfl, hg.size, box_new6 w5 x, hk, hC.allocR _, hg.trans (World.grownBy_alloc _ _ _)⟩
end Go.Proofs.YtbgomhgohphglaaDoor
