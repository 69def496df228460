/- One Row handed in: its reading, and what the laws' szRow and toRow make of it. -/
import Derived.Test.YtbgomhgohphglaaDoorRw
import Derived.Test.YtbgomhgohphglaaDoorResC
import Derived.Test.YtbgomhgohphglaaDoorGrown1
import Derived.WalkKit
import Derived.ProofKit
import Derived.OpenShut
import Derived.LaidMore
import Derived.OwnWalk
import Derived.Deep.Strs
import Derived.Deep.Slices
import Derived.Lib.SmallJoins
namespace Go.Proofs.YtbgomhgohphglaaDoor
open Go.ChangeShapes Go.WideShapes Go.ChangeAt Go.WideMaps Go.WideElems Go.RowKit Go.Deep Go.Joins

theorem list3 {cs : List Value} (h : cs.length = 3) : ∃ v0 v1 v2, cs = [v0, v1, v2] := by
  match cs, h with
  | [v0, v1, v2], _ => exact ⟨v0, v1, v2, rfl⟩

section
variable {H : Type} {enc : TypeId × Value → H} {w : World} {base : Nat}

theorem open_row {n : Nat} {cs : List Value} {x : DataW H × List MemPlace} (h : DataW.trod enc Tryd.prog w base (fun _ => true) true n 44 cs = some x) :
    ∃ e : Rw, cs = [.string e.key, .string e.text, .string e.val] ∧ e.key.size ≤ maxLen ∧ e.text.size ≤ maxLen ∧ e.val.size ≤ maxLen := by
  obtain ⟨z0, z1, z2, m', _, hl, g0, g1, g2⟩ := trod_struct3 Tryd.underlying44 h
  have c3 : Tryd.prog.cellsOf 44 = 3 := by kernel_rfl
  have d1 : Tryd.prog.cellsOf 9 = 1 := by kernel_rfl
  rw [c3] at hl
  obtain ⟨v0, v1, v2, rfl⟩ := list3 hl
  simp only [d1, List.take, List.drop] at g0 g1 g2
  obtain ⟨f, hf, _, f1⟩ := DataW.trod_string Tryd.underlying9 g0
  obtain ⟨s, hs, _, s1⟩ := DataW.trod_string Tryd.underlying9 g1
  obtain ⟨t, ht, _, t1⟩ := DataW.trod_string Tryd.underlying9 g2
  cases hf
  cases hs
  cases ht
  exact ⟨⟨f, s, t⟩, rfl, f1, s1, t1⟩
end

/-- What szRow leaves. -/
def szR1 (e : Rw) (left : Int) : Int := if left - (e.key.size : Int) < 0 then -1 else if left - (e.key.size : Int) - (e.text.size : Int) < 0 then -1 else if left - (e.key.size : Int) - (e.text.size : Int) - (e.val.size : Int) < 0 then -1 else left - (e.key.size : Int) - (e.text.size : Int) - (e.val.size : Int)

theorem szR1_bd {e : Rw} {left : Int} (h : 0 ≤ szR1 e left) : (e.key.size : Int) ≤ left ∧ (e.text.size : Int) ≤ left ∧ (e.val.size : Int) ≤ left ∧ szR1 e left ≤ left := by
  unfold szR1 at *
  split at h
  · omega
  · split at h
    · omega
    · split at h
      · omega
      · simp only [*, if_false]; omega

set_option maxRecDepth 100000 in
set_option maxHeartbeats 1000000 in
theorem szRow_any (w : World) (e : Rw) (left : Int) (h0 : 0 ≤ left) (h1 : left ≤ 1048576) (z0 : e.key.size ≤ maxLen) (z1 : e.text.size ≤ maxLen) (z2 : e.val.size ≤ maxLen) :
    Calls Tryd.prog 20 #[.agg #[.string e.key, .string e.text, .string e.val], .int .i64 left] w fun r w' => r = .returned (.int .i64 (szR1 e left)) ∧ Below w.heap.size w w' := by
  unfold maxLen at z0 z1 z2
  have hb := (Below.refl w.heap.size w).alloc (Nat.le_refl _) (.cells #[.string e.key, .string e.text, .string e.val] 44)
  have HB : Hid _ := hb
  clear hb
  by_cases c0 : left - (e.key.size : Int) < 0
  · have HA : Hid (szR1 e left = -1) := by show _ = _; unfold szR1; rw [if_pos c0]
    go_enter Tryd.func20, Tryd.ntmps20
    go_wp2
    go_ret
    rw [HA.out]
    exact ⟨rfl, HB.out⟩
  · by_cases c1 : left - (e.key.size : Int) - (e.text.size : Int) < 0
    · have HA : Hid (szR1 e left = -1) := by show _ = _; unfold szR1; rw [if_neg c0, if_pos c1]
      go_enter Tryd.func20, Tryd.ntmps20
      go_wp2
      go_ret
      rw [HA.out]
      exact ⟨rfl, HB.out⟩
    · by_cases c2 : left - (e.key.size : Int) - (e.text.size : Int) - (e.val.size : Int) < 0
      · have HA : Hid (szR1 e left = -1) := by show _ = _; unfold szR1; rw [if_neg c0, if_neg c1, if_pos c2]
        go_enter Tryd.func20, Tryd.ntmps20
        go_wp2
        go_ret
        rw [HA.out]
        exact ⟨rfl, HB.out⟩
      · have HA : Hid (szR1 e left = left - (e.key.size : Int) - (e.text.size : Int) - (e.val.size : Int)) := by show _ = _; unfold szR1; rw [if_neg c0, if_neg c1, if_neg c2]
        go_enter Tryd.func20, Tryd.ntmps20
        go_wp2
        go_ret
        rw [HA.out]
        exact ⟨rfl, HB.out⟩

set_option maxRecDepth 100000 in
set_option maxHeartbeats 1000000 in
theorem toRow_any (w : World) (x : Rw) : Calls Tryd.prog 22 #[.agg #[.string x.key, .string x.text, .string x.val]] w fun e w' => e = .returned (.agg #[.string x.key, .string x.text, .string x.val]) ∧ Below w.heap.size w w' := by
  go_enter Tryd.func22, Tryd.ntmps22
  go_wp2
  refine bodyPost_ret (v := .agg #[.string x.key, .string x.text, .string x.val]) ?_ rfl ⟨rfl, (((Below.refl _ _).alloc (Nat.le_refl _) _).alloc (by simp) _).alloc (by simp; omega) _⟩
  rw [results_cell1 rfl]
  go_simp
end Go.Proofs.YtbgomhgohphglaaDoor
