/- Contract of the laws' eqStringS, as the walks over rows take it. -/
import Derived.Test.YtecgkekafbimaaaMarkT
import Derived.Test.YtecgkekafbimaaaIGood6
namespace Go.Proofs.Ytecgkekafbimaaa
open Go.RowKit
theorem eqT6_any {u : World} {B B' : Nat} {v v' : Value} {gs : List ByteArray} (hz : gs.length ≤ 1048576) (h : Strs u B v gs) (h' : Strs u B' v' gs) : Calls Try.prog 16 #[v, v'] u fun e w' => e = .returned (.bool true) ∧ Below u.heap.size u w' :=
  (eqStr_any hz h h').mono fun e w' h => ⟨h.1, by obtain ⟨n, hn⟩ := h.2; rw [hn]; exact below_drewN6 (Below.refl _ _) n⟩
end Go.Proofs.Ytecgkekafbimaaa
