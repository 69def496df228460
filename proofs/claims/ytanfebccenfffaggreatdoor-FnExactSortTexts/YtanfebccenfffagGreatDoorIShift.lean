/- Contract of the program's shiftElem. -/
import Derived.Test.YtanfebccenfffagGreatDoorFour
import Derived.Test.YtanfebccenfffagGreatDoorResC
import Derived.Deep.RegionHeld3
namespace Go.Proofs.YtanfebccenfffagGreatDoor
open Go.RowKit

/-- The fourth weight of an elem and how it counts; b: whether it varies or stands behind one that does. -/
def shE (e : El) (b : Bool) : Int × El := if e.varies = true then (e.first, elZ) else if b = true ∨ (e.first = 0 ∧ e.second = 0 ∧ e.third = 0) then (0, elZ) else (65535, e)

def behB (b : Bool) (e : El) : Bool := e.varies || (b && e.first == 0)

theorem four1_shift (b : Bool) (e : El) : four1 true b e = ((shE e (behB b e)).1, (shE e (behB b e)).2, behB b e) := by
  obtain ⟨x, y, z, v⟩ := e
  unfold four1 shE behB elZ
  cases v <;> cases b <;> by_cases hx : x = 0 <;> by_cases hy : y = 0 <;> by_cases hz : z = 0 <;> simp [hx, hy, hz]

theorem below_two (w : World) (o o' : Obj) : Below w.heap.size w ((w.alloc o).alloc o') := ((Below.refl w.heap.size w).alloc (Nat.le_refl _) o).alloc (by simp) o'

theorem ret_sh {p : Int × El} {n : Int} {a b c : Int} {d : Bool} (h : p = (n, ⟨a, b, c, d⟩)) : Ending.returned (.tuple #[.int .i64 n, .agg #[.int .i64 a, .int .i64 b, .int .i64 c, .bool d]]) = .returned (.tuple #[.int .i64 p.1, .agg #[.int .i64 p.2.first, .int .i64 p.2.second, .int .i64 p.2.third, .bool p.2.varies]]) := by rw [h]

set_option maxRecDepth 100000 in
set_option maxHeartbeats 4000000 in
theorem shift_any (e : El) (b : Bool) (w : World) :
    Calls Tryz.prog 94 #[.agg #[.int .i64 e.first, .int .i64 e.second, .int .i64 e.third, .bool e.varies], .bool b] w fun x w' => x = .returned (.tuple #[.int .i64 (shE e b).1, .agg #[.int .i64 (shE e b).2.first, .int .i64 (shE e b).2.second, .int .i64 (shE e b).2.third, .bool (shE e b).2.varies]]) ∧ Below w.heap.size w w' := by
  obtain ⟨x, y, z, v⟩ := e
  have hba := ((Below.refl w.heap.size w).alloc (Nat.le_refl _) (.cells #[.int .i64 x, .int .i64 y, .int .i64 z, .bool v] 80)).alloc (by simp) (.cells #[.int .i64 0, .int .i64 0, .int .i64 0, .bool false] 80)
  cases v
  · cases b
    · by_cases hz : x = 0 ∧ y = 0 ∧ z = 0
      · obtain ⟨rfl, rfl, rfl⟩ := hz
        have HO : Hid (shE ⟨0, 0, 0, false⟩ false = (0, ⟨0, 0, 0, false⟩)) := by show _ = _; unfold shE elZ; simp
        go_enter Tryz.func94, Tryz.ntmps94
        go_wp2
        refine bodyPost_ret (v := .tuple #[.int .i64 0, .agg #[.int .i64 0, .int .i64 0, .int .i64 0, .bool false]]) ?_ rfl ⟨ret_sh HO.out, hba⟩
        rw [results_tmp_cell rfl]
        go_simp
      · by_cases hx : x = 0
        · subst hx
          by_cases hy : y = 0
          · subst hy
            have hz0 : ¬ z = 0 := fun c => hz ⟨rfl, rfl, c⟩
            have HO : Hid (shE ⟨0, 0, z, false⟩ false = (65535, ⟨0, 0, z, false⟩)) := by show _ = _; unfold shE elZ; simp [hz0]
            go_enter Tryz.func94, Tryz.ntmps94
            go_wp2
            go_region
            all_goals
              go_wp2
              refine bodyPost_ret (v := .tuple #[.int .i64 65535, .agg #[.int .i64 0, .int .i64 0, .int .i64 z, .bool false]]) ?_ rfl ⟨ret_sh HO.out, (below_two w _ _).drew⟩
              rw [results_tmp_cell rfl]
              go_simp
          · have HO : Hid (shE ⟨0, y, z, false⟩ false = (65535, ⟨0, y, z, false⟩)) := by show _ = _; unfold shE elZ; simp [hy]
            go_enter Tryz.func94, Tryz.ntmps94
            go_wp2
            go_region
            all_goals
              go_wp2
              refine bodyPost_ret (v := .tuple #[.int .i64 65535, .agg #[.int .i64 0, .int .i64 y, .int .i64 z, .bool false]]) ?_ rfl ⟨ret_sh HO.out, (below_two w _ _).drew⟩
              rw [results_tmp_cell rfl]
              go_simp
        · have HO : Hid (shE ⟨x, y, z, false⟩ false = (65535, ⟨x, y, z, false⟩)) := by show _ = _; unfold shE elZ; simp [hx]
          go_enter Tryz.func94, Tryz.ntmps94
          go_wp2
          go_region
          all_goals
            go_wp2
            refine bodyPost_ret (v := .tuple #[.int .i64 65535, .agg #[.int .i64 x, .int .i64 y, .int .i64 z, .bool false]]) ?_ rfl ⟨ret_sh HO.out, (below_two w _ _).drew⟩
            rw [results_tmp_cell rfl]
            go_simp
    · have HO : Hid (shE ⟨x, y, z, false⟩ true = (0, ⟨0, 0, 0, false⟩)) := by show _ = _; unfold shE elZ; simp
      go_enter Tryz.func94, Tryz.ntmps94
      go_wp2
      refine bodyPost_ret (v := .tuple #[.int .i64 0, .agg #[.int .i64 0, .int .i64 0, .int .i64 0, .bool false]]) ?_ rfl ⟨ret_sh HO.out, hba⟩
      rw [results_tmp_cell rfl]
      go_simp
  · have HO : Hid (shE ⟨x, y, z, true⟩ b = (x, ⟨0, 0, 0, false⟩)) := by show _ = _; unfold shE elZ; simp
    go_enter Tryz.func94, Tryz.ntmps94
    go_wp2
    refine bodyPost_ret (v := .tuple #[.int .i64 x, .agg #[.int .i64 0, .int .i64 0, .int .i64 0, .bool false]]) ?_ rfl ⟨ret_sh HO.out, hba⟩
    rw [results_tmp_cell rfl]
    go_simp
end Go.Proofs.YtanfebccenfffagGreatDoor
