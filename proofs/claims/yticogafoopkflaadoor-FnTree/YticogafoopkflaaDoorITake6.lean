/- Contracts of the program's (*pageReader).take: what is taken, or the panic where the page lacks it. -/
import Derived.Test.YticogafoopkflaaDoorRw
import Derived.Test.YticogafoopkflaaDoorGrown1
namespace Go.Proofs.YticogafoopkflaaDoor
open Go.RowKit

/-- A page's reader in memory. -/
def PgR (w : World) (b : Nat) (t : ByteArray) : Prop := w.heap[b]? = some (.cells #[.string t] 91)

theorem PgR.cell {w : World} {b : Nat} {t : ByteArray} (h : PgR w b t) : w.cell? ⟨b, 0, none⟩ = some (.string t) := cell_of_row _ _ 0 _ _ _ h
theorem PgR.frozen {w : World} {b : Nat} {t : ByteArray} (h : PgR w b t) (j : Nat) : w.frozen? ⟨b, j, none⟩ = false := by unfold PgR at h; simp [World.frozen?, h]
theorem PgR.lt {w : World} {b : Nat} {t : ByteArray} (h : PgR w b t) : b < w.heap.size := (Array.getElem?_eq_some_iff.1 h).1
theorem PgR.set {w : World} {b : Nat} {t : ByteArray} (h : PgR w b t) (u : ByteArray) : PgR (w.setCell ⟨b, 0, none⟩ (.string u)) b u := by
  unfold PgR at h ⊢
  simp [World.setCell, Array.getElem?_modify, h]
theorem PgR.below {w w' : World} {b : Nat} {t : ByteArray} (h : PgR w b t) (hb : Below w.heap.size w w') : PgR w' b t := (hb.block b h.lt).trans h

set_option maxRecDepth 100000 in
set_option maxHeartbeats 1000000 in
theorem take_ok {w : World} {b n : Nat} {t : ByteArray} (hb : PgR w b t) (hn : n ≤ t.size) :
    Calls Tryd.prog 62 #[.pointer (some ⟨b, 0, none⟩), .int .i64 (n : Int)] w fun e w' => e = .returned (.string (t.extract 0 n)) ∧ w' = w.setCell ⟨b, 0, none⟩ (.string (t.extract n t.size)) := by
  have c0 := hb.cell
  have f0 := hb.frozen 0
  have l0 := hb.lt
  have h1 : (n : Int) ≤ (t.size : Int) := by omega
  go_enter Tryd.func62, Tryd.ntmps62
  go_wp2
  go_ret
  exact ⟨rfl, rfl⟩

set_option maxRecDepth 100000 in
set_option maxHeartbeats 1000000 in
theorem take_no {w : World} {b n : Nat} {t : ByteArray} {ty : TypeId} {pv : Value} (hg : w.cell? ⟨0, 0, none⟩ = some (.iface ty pv)) (hb : PgR w b t) (hn : t.size < n) :
    Calls Tryd.prog 62 #[.pointer (some ⟨b, 0, none⟩), .int .i64 (n : Int)] w fun e w' => e = .panicked [{ v := .iface ty pv, recovered := false }] ∧ w' = w := by
  have c0 := hb.cell
  have l0 := hb.lt
  have h1 : ¬ (n : Int) ≤ (t.size : Int) := by omega
  go_enter Tryd.func62, Tryd.ntmps62
  go_wp2
  exact ⟨rfl, rfl, rfl⟩
end Go.Proofs.YticogafoopkflaaDoor
