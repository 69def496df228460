/- Contract of the laws' toElem. -/
import Derived.Test.YtcmanfcgoapjjafResC
namespace Go.Proofs.Ytcmanfcgoapjjaf
open Go.RowKit

set_option maxRecDepth 100000 in
set_option maxHeartbeats 1000000 in
theorem toElem_any (w : World) (f s t : Int) (v : Bool) : Calls Try.prog 15 #[.agg #[.int .i64 f, .int .i64 s, .int .i64 t, .bool v]] w fun e w' => e = .returned (.agg #[.int .i64 f, .int .i64 s, .int .i64 t, .bool v]) ∧ Below w.heap.size w w' := by
  go_enter Try.func15, Try.ntmps15
  go_wp2
  refine bodyPost_ret (v := .agg #[.int .i64 f, .int .i64 s, .int .i64 t, .bool v]) ?_ rfl ⟨rfl, (((Below.refl _ _).alloc (Nat.le_refl _) _).alloc (by simp) _).alloc (by simp; omega) _⟩
  rw [results_cell1 rfl]
  go_simp
end Go.Proofs.Ytcmanfcgoapjjaf
