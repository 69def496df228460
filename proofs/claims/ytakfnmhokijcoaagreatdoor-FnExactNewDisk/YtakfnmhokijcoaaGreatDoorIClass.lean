/- Contract of the program's ClassOf, over its table of marks. -/
import Derived.Test.YtakfnmhokijcoaaGreatDoorLaid
import Derived.Test.YtakfnmhokijcoaaGreatDoorClass
import Derived.Deep.WholeRow
namespace Go.Proofs.YtakfnmhokijcoaaGreatDoor
open Go.RowKit

def marksA : Array Value := (marksF.map (Value.int .i64)).toArray

theorem marks_index (k : Nat) (hk : k < 15) (w : World) : (Instr.index 118 (.agg marksA) (.int .i64 k)).run Tryz.prog w = .ok (.agg #[.int .i64 (at0 (marksT.getD k []) 0), .int .i64 (at0 (marksT.getD k []) 1)]) w := by
  iterate 15 (rcases k with _ | k; · kernel_rfl)
  omega

theorem marks_hit : ∀ t ∈ marksT, cls (at0 t 0) = at0 t 1 := by decide
theorem marks_none {r : Int} (h : ∀ t ∈ marksT, at0 t 0 ≠ r) : cls r = 0 := by
  simp [marksT, at0] at h
  unfold cls
  repeat' split
  all_goals omega

def NoMark (r : Int) (k : Nat) : Prop := ∀ j, j < k → at0 (marksT.getD j []) 0 ≠ r

set_option maxRecDepth 100000 in
set_option maxHeartbeats 2000000 in
theorem implClass_any (r : Int) (w : World) (hm : Held w 1 marksF) : Calls Tryz.prog 95 #[.int .i64 r] w fun e w' => e = .returned (.int .i64 (cls r)) ∧ Below w.heap.size w w' := by
  obtain ⟨t, fr, hh0⟩ := hm
  have hh : w.heap[1]? = some (.cells marksA t fr) := hh0
  clear hh0
  go_enter Tryz.func95, Tryz.ntmps95
  go_wp2_with (refine wpList_load_row rfl 118 (.global 1) rfl 1 rfl t marksA fr _ hh Tryz.underlying118 rfl (by kernel_rfl) ?_)
  clear hh
  go_loopw [6] (fun i wr => ∃ k : Nat, k ≤ 15 ∧ i = .int .i64 k ∧ Hid (NoMark r k) ∧ Below w.heap.size w wr) (fun i _ => 15 - (intOf i).toNat)
  case atStart => exact ⟨0, Nat.zero_le _, rfl, fun j hj => by omega, Below.refl _ _⟩
  case round =>
    obtain ⟨k, hk, rfl, HN, hb⟩ := hrel
    by_cases hlt : k < 15
    · have hi := fun w => marks_index k hlt w
      have ht : marksT.getD k [] ∈ marksT := by
        rw [List.getD_eq_getElem?_getD, List.getElem?_eq_getElem (show k < marksT.length from hlt)]; exact List.getElem_mem _
      have HH : Hid (cls (at0 (marksT.getD k []) 0) = at0 (marksT.getD k []) 1) := marks_hit _ ht
      have HK : Hid (at0 (marksT.getD k []) 0 ≠ r → NoMark r (k + 1)) := fun h j hj => by
        by_cases e : j = k
        · subst e; exact h
        · exact HN.out j (by omega)
      clear HN ht
      generalize at0 (marksT.getD k []) 0 = a at *
      generalize at0 (marksT.getD k []) 1 = b at *
      have hk8 : (k : Int) < 15 := by omega
      by_cases e : a = r
      · subst e
        go_wp2
        go_ret
        exact ⟨ret_i HH.out.symm, hb.alloc hb.size _⟩
      · have e2 : (a == r) = false := by simpa using e
        have HN2 : Hid (NoMark r (k + 1)) := HK.out e
        clear e HK
        go_wp2
        exact ⟨⟨k + 1, by omega, by go_num, HN2, hb.alloc hb.size _⟩, by simp [intOf]; omega⟩
    · have HC : Hid (cls r = 0) := marks_none fun t ht => by
        obtain ⟨j, hj⟩ := List.mem_iff_getElem?.1 ht
        have h1 := (List.getElem?_eq_some_iff.1 hj).1
        have h2 : marksT.length = 15 := rfl
        have := HN.out j (by omega)
        rw [List.getD_eq_getElem?_getD, hj] at this
        exact this
      clear HN
      go_wp2
      go_ret
      exact ⟨ret_i HC.out.symm, hb⟩
end Go.Proofs.YtakfnmhokijcoaaGreatDoor
