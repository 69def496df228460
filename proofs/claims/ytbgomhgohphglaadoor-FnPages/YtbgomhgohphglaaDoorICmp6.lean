/- Contracts of strings.Compare and of the comparison that placeOf hands on. -/
import Derived.Test.YtbgomhgohphglaaDoorRw
import Derived.Lib.Bytealg
import Derived.WalkMore
import Derived.WalkSmall
namespace Go.Proofs.YtbgomhgohphglaaDoor
open Go.RowKit

/-- How two keys stand. -/
def cmpK (a b : ByteArray) : Int := Lib.compareBytes a.data.toList b.data.toList

set_option maxRecDepth 100000 in
set_option maxHeartbeats 1000000 in
theorem compareString_any (a b : ByteArray) (w : World) :
    Calls Tryd.prog 83 #[.string a, .string b] w fun e w' => e = .returned (.int .i64 (cmpK a b)) ∧ w' = w := by
  go_enter Tryd.func83, Tryd.ntmps83
  go_wp2
  rw [run_callFunc_extern Tryd.func87 (by kernel_rfl) (by kernel_rfl) (by kernel_rfl) (e := Extern.BytealgCompare.compare) (by kernel_rfl), Lib.run_compareString]
  simp only [Result.andThen]
  rw [Oper.upon_value]
  go_wp2
  go_ret
  exact ⟨rfl, rfl⟩

set_option maxRecDepth 100000 in
set_option maxHeartbeats 1000000 in
theorem strCompare_any (a b : ByteArray) (w : World) :
    Calls Tryd.prog 67 #[.string a, .string b] w fun e w' => e = .returned (.int .i64 (cmpK a b)) ∧ w' = w := by
  have A := fun w => compareString_any a b w
  go_enter Tryd.func67, Tryd.ntmps67
  go_wp2_with fail
  refine (A _).mono ?_
  rintro e w1 ⟨rfl, rfl⟩
  clear A
  go_wp2
  go_ret
  exact ⟨rfl, rfl⟩

set_option maxRecDepth 100000 in
set_option maxHeartbeats 1000000 in
theorem placeCmp_any (x : Rw) (key : ByteArray) (w : World) :
    Calls Tryd.prog 66 #[.agg #[.string x.key, .string x.text, .string x.val], .string key] w fun e w' => e = .returned (.int .i64 (cmpK x.key key)) ∧ Below w.heap.size w w' := by
  have A := fun w => strCompare_any x.key key w
  have HB : Hid (∀ o, Below w.heap.size w (w.alloc o)) := fun o => (Below.refl w.heap.size w).alloc (Nat.le_refl _) o
  go_enter Tryd.func66, Tryd.ntmps66
  go_wp2_with fail
  refine (A _).mono ?_
  rintro e w1 ⟨rfl, rfl⟩
  clear A
  go_wp2
  go_ret
  exact ⟨rfl, HB.out _⟩
end Go.Proofs.YtbgomhgohphglaaDoor
