/- Short names. -/
import Derived.Below
namespace Go.Proofs.YtjbmgghehdemdaaGreatDoor
open Go.RowKit
theorem bR {n : Nat} : n ≤ n := Nat.le_refl n
theorem bX {n : Nat} {w : World} : Below n w w := Below.refl n w
theorem bY {w : World} (o : Obj) : Below w.heap.size w (w.alloc o) := (Below.refl _ _).alloc (Nat.le_refl _) o
theorem hZ {p : Prop} (h : p) : Hid p := h
end Go.Proofs.YtjbmgghehdemdaaGreatDoor
