/- A list of ints handed in, and what the law's toIntS makes of it. -/
import Derived.Test.YtdnelneamnmcnaeDoorToInt
import Derived.Test.YtdnelneamnmcnaeDoorIsRow
import Derived.WalkKit
import Derived.Below
namespace Go.Proofs.YtdnelneamnmcnaeDoor
open Go.RowKit

theorem toInt_any (w w1 : World) (a0 : Option Addr) (len cap : Nat) (zs : List Int) (h : IsRow .i64 w a0 len cap zs) (hb : Below w.heap.size w w1) (hm : len ≤ 1048576) :
    Calls Tryd.prog 9 #[.slice a0 len cap] w1 fun e w' => ∃ v, e = .returned v ∧ Ints w' w1.heap.size v (zs.take len) ∧ Below w1.heap.size w1 w' := by
  rcases h with ⟨rfl, rfl, rfl, rfl⟩ | ⟨x, rfl, hl, hc, hz, hcell, _⟩
  · exact toInt_none w1 _ _
  · by_cases h0 : len = 0
    · subst h0
      exact toInt_none w1 _ _
    · obtain ⟨b, off, rfl, hc2⟩ := ints_at hcell (by omega)
      have hlt : b < w.heap.size := by
        have h1 := hc2 0 (by omega)
        apply Classical.byContradiction
        intro hn
        have : w.heap[b]? = none := by simp; omega
        simp [World.cell?, this] at h1
      exact toInt_row w1 b off len cap zs (by omega) (by omega) (Nat.lt_of_lt_of_le hlt hb.size) (fun j hj => by
        rw [hb.cell (p := ⟨b, off + j, none⟩) hlt, hc2 j (by omega)]; rfl)
end Go.Proofs.YtdnelneamnmcnaeDoor
