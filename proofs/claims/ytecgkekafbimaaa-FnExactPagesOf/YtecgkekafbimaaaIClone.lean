/- The library's strings.Clone. -/
import Derived.Test.YtecgkekafbimaaaStrs
import Derived.Shelf.Pu.Clone
namespace Go.Proofs.Ytecgkekafbimaaa
open Go.RowKit

def pu25_ren : Go.Shelf.Ren := ⟨fun | 25 => 36 | n => n, fun | 0 => 0 | 3 => 3 | 4 => 4 | 5 => 5 | 9 => 9 | 37 => 53 | 47 => 57 | n => n, fun | n => n⟩
theorem pu25 : Go.Proofs.LaysPu.n25 Try.prog pu25_ren := {
  mixed := by kernel_rfl
  f25 := Try.func36.trans (congrArg some (by kernel_rfl))
  t0 := Try.underlying0
  a0 := Try.isAgg0
  z0 := Try.sizeOf0
  v0 := Try.zeroValue0
  i0 := by kernel_rfl
  t3 := Try.underlying3
  a3 := Try.isAgg3
  z3 := Try.sizeOf3
  v3 := Try.zeroValue3
  i3 := by kernel_rfl
  t4 := Try.underlying4
  a4 := Try.isAgg4
  z4 := Try.sizeOf4
  v4 := Try.zeroValue4
  i4 := by kernel_rfl
  t5 := Try.underlying5
  a5 := Try.isAgg5
  z5 := Try.sizeOf5
  v5 := Try.zeroValue5
  i5 := by kernel_rfl
  t9 := Try.underlying9
  a9 := Try.isAgg9
  z9 := Try.sizeOf9
  v9 := Try.zeroValue9
  i9 := by kernel_rfl
  t37 := Try.underlying53
  a37 := Try.isAgg53
  z37 := Try.sizeOf53
  v37 := Try.zeroValue53
  i37 := by kernel_rfl
  t47 := Try.underlying57
  a47 := Try.isAgg57
  z47 := Try.sizeOf57
  v47 := Try.zeroValue57
  i47 := by kernel_rfl }

set_option maxRecDepth 100000 in
set_option maxHeartbeats 1000000 in
theorem clone_str (s : ByteArray) (w : World) (hs : s.size ≤ 1048576) : Calls Try.prog 33 #[.string s] w fun e w' => e = .returned (.string s) ∧ Below w.heap.size w w' := by
  have C : Calls Try.prog 36 #[.string s] w fun e w' => e = .returned (.string s) ∧ Below w.heap.size w w' := Go.Proofs.AnyPu.stringslite_Clone pu25 s w (by omega)
  go_enter Try.func33, Try.ntmps33
  go_wp2_with fail
  refine C.mono ?_
  rintro e w1 ⟨rfl, b1⟩
  clear C
  go_wp2
  go_ret
  exact ⟨rfl, b1⟩
end Go.Proofs.Ytecgkekafbimaaa
