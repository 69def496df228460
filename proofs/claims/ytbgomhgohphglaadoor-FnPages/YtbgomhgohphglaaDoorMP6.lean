/- Texts of mine laid together: DrawRp6. -/
import Derived.Test.YtbgomhgohphglaaDoorDrawRw6
import Derived.Test.YtbgomhgohphglaaDoorMP5
namespace Go.Proofs.YtbgomhgohphglaaDoor
open Go.RowKit

set_option maxRecDepth 100000 in
set_option maxHeartbeats 1000000 in
theorem drawGood_any (w : World) (a : Option Addr) (n cap : Nat) (hn : n ≤ 1048576) (h : Came w a n) :
    Calls Tryd.prog 27 #[.slice a n cap] w fun e w' => ∃ (v : Value) (l : List Rw), e = .returned v ∧ Rws w' w.heap.size v l ∧ l.length ≤ 61 ∧ Below w.heap.size w w' := by
  have C1 := cur_new w a n cap hn h
  have R := rowsD_any _ _ _ 0 C1 (by omega)
  clear h C1
  go_enter Tryd.func27, Tryd.ntmps27
  go_wp2_with fail
  refine R.mono ?_
  rintro e w1 ⟨v, l, rfl, r1, hl, ⟨_, g1⟩⟩
  have HR : Hid (Rws w1 w.heap.size v l) := rws_low6 r1 (by simp)
  have HB : Hid (Below w.heap.size w w1) := cur_below g1
  clear R r1 g1
  go_wp2
  go_ret
  exact ⟨v, l, rfl, HR.out, hl, HB.out⟩

set_option maxRecDepth 100000 in
set_option maxHeartbeats 1000000 in
theorem drawRows_any (w : World) (a : Option Addr) (n cap : Nat) (hn : n ≤ 1048576) (h : Came w a n) : DrawsRows w a n cap := by
  have R := drawGood_any w a n cap hn h
  unfold DrawsRows
  clear h
  go_enter Tryd.func7, Tryd.ntmps7
  go_wp2_with fail
  refine R.mono ?_
  rintro e w1 ⟨v, l, rfl, r1, hl, b1⟩
  obtain ⟨a1, c1, hv⟩ := rw_form r1
  subst hv
  have hc := rwsR_cap r1
  have HR : Hid (Rws w1 w.heap.size (.slice a1 l.length c1) l) := r1
  have HB : Hid (Below w.heap.size w w1) := b1
  clear R r1 b1
  go_wp2
  go_ret
  exact ⟨a1, l, c1, rfl, HR.out, hc.1, hc.2, by omega, HB.out⟩
end Go.Proofs.YtbgomhgohphglaaDoor
