/- Contract of the laws' eqRow. -/
import Derived.Test.YtecgkekafbimaaaRw
import Derived.BigQuiet
import Derived.Deep.QuietTactic
import Derived.Deep.RegionHeld
namespace Go.Proofs.Ytecgkekafbimaaa
open Go.RowKit

set_option maxRecDepth 100000 in
set_option maxHeartbeats 1000000 in
theorem eqRow_same (w : World) (x : Rw) : Calls Try.prog 26 #[.agg #[.string x.key, .string x.text, .string x.val], .agg #[.string x.key, .string x.text, .string x.val]] w fun e w' => e = .returned (.bool true) ∧ Below w.heap.size w w' := by
  go_enter Try.func26, Try.ntmps26
  go_wp2
  go_ret
  exact ⟨rfl, ((Below.refl _ _).alloc (Nat.le_refl _) _).alloc (by simp) _⟩
end Go.Proofs.Ytecgkekafbimaaa
