/- Contract of the specification's l2Table: the list 'tab' of rows of three integers, in memory of its own. -/
import Derived.Test.YtinjldagfhbioaaGreatDoorTable2
namespace Go.Proofs.YtinjldagfhbioaaGreatDoor
open Go.RowKit

set_option maxRecDepth 100000 in
set_option maxHeartbeats 2000000 in
theorem table_any (w : World) :
    Calls Tryz.prog 98 #[] w fun e w' => ∃ v, e = .returned v ∧ Tab w' w.heap.size v tab ∧ Below w.heap.size w w' := by
  obtain ⟨i0, hi, hzz, hz1, hz2⟩ := info_parts info_ints
  go_enter Tryz.func98, Tryz.ntmps98
  go_wp2
  go_loopw [1, 32] (fun out i wr => TRel w out i wr) (fun _ i _ => 8 - (intOf i).toNat)
  case atStart =>
    exact table_begin w _ _ _ (cut_bd w) (cut_bd w.drew) (cut_bd w.drew.drew)
  case round =>
    obtain ⟨k, hk, rfl, hT, hR, hne, hbw⟩ := hrel
    by_cases hlt : k < 8
    · obtain ⟨vs, hown, hin⟩ := hR
      obtain ⟨row, hrow⟩ : ∃ row, rows8[k]? = some row := ⟨_, List.getElem?_eq_getElem hlt⟩
      obtain ⟨x, hx, hI⟩ := hin k row hrow
      have c0 := hown.cellAt k (by show k < 8 * 1; omega)
      rw [hx] at c0
      have hlen : ∃ r0 r1 ms, row = r0 :: r1 :: ms ∧ 1 ≤ ms.length ∧ ms.length ≤ 6 ∧ 0 ≤ r0 ∧ r0 ≤ 300 ∧ 0 ≤ r1 ∧ r1 ≤ 300 := by
        have : ∀ row ∈ rows8, ∃ r0 r1 ms, row = r0 :: r1 :: ms ∧ 1 ≤ ms.length ∧ ms.length ≤ 6 ∧ 0 ≤ r0 ∧ r0 ≤ 300 ∧ 0 ≤ r1 ∧ r1 ≤ 300 := by
          intro row h
          simp only [rows8, List.mem_cons, List.not_mem_nil, or_false] at h
          rcases h with rfl | rfl | rfl | rfl | rfl | rfl | rfl | rfl <;> exact ⟨_, _, _, rfl, by simp, by simp, by omega, by omega, by omega, by omega⟩
        exact this row (List.mem_of_getElem? hrow)
      obtain ⟨r0, r1, ms, rfl, hm1, hm2, hr00, hr01, hr10, hr11⟩ := hlen
      rcases hI.form with ⟨_, h0⟩ | ⟨h, cap, rfl, hcap, hcapm⟩
      · cases h0
      simp only [List.length_cons] at hI hcap c0
      unfold maxLen at hcapm
      have hc3 : cap ≠ 2 := by omega
      have hR2 : Tab wr w.heap.size (.slice (some ⟨w.heap.size + 1 + 1 + 1 + 1 + 1 + 1 + 1 + 1 + 1 + 1 + 1 + 1 + 1 + 1 + 1 + 1 + 1 + 1, 0, none⟩) 8 8) rows8 := ⟨vs, hown, hin⟩
      have HROW : Hid _ := hrow
      have hk8 : (k : Int) < 8 := by omega
      clear hown hin hrow hx
      go_wp2_with fail
      go_loopw [1, 39] (fun out i wr => IRel w h cap r0 r1 ms (first5 ++ (rows8.take k).flatMap expand) out i wr) (fun _ i _ => ms.length - (intOf i).toNat)
      case atStart => exact ⟨0, Nat.zero_le _, rfl, by simpa using hT, hR2, hI, hne, hbw⟩
      case round =>
        clear hT hR2 hI hne hbw c0
        obtain ⟨j, hj, rfl, hT, hR, hI, hne, hbw⟩ := hrel
        by_cases hjl : j < ms.length
        · obtain ⟨m, hm⟩ : ∃ m, ms[j]? = some m := ⟨_, List.getElem?_eq_getElem hjl⟩
          have d0 : wr.cell? ⟨h, 0, none⟩ = some (.int .i64 r0) := hI.cellAt 0 (by omega)
          have d1 : wr.cell? ⟨h, 1, none⟩ = some (.int .i64 r1) := hI.cellAt 1 (by omega)
          have d2 := hI.cellAt (2 + j) (by simp; omega)
          have e2 : ((r0 :: r1 :: ms).map (Value.int .i64))[2 + j]? = some (.int .i64 m) := by
            rw [Nat.add_comm]; simp [hm]
          rw [e2] at d2
          obtain ⟨vs, hown, hin⟩ := hT
          have hnb := len_bd k (by omega)
          have htk : ((expand (r0 :: r1 :: ms)).take (2 * j)).length ≤ 2 * j := List.length_take_le _ _
          obtain ⟨N, hNe⟩ : ∃ N, N = (first5 ++ (rows8.take k).flatMap expand ++ (expand (r0 :: r1 :: ms)).take (2 * j)).length := ⟨_, rfl⟩
          have hN : N ≤ 80 := by rw [hNe, List.length_append]; omega
          rw [← hNe] at hown
          have HN : Hid _ := hNe
          clear hNe hnb htk
          have HM : Hid _ := hm
          clear e2 hm
          have q0 : (0 : Int) < (ms.length : Int) + 1 + 1 := by omega
          have q1 : (1 : Int) < (ms.length : Int) + 1 + 1 := by omega
          have hlh := (World.ownsRow.lt hI h rfl).2
          have hfar : some h ≠ _ := fun e => by
            rcases ints_tab hI hown with h1 | h1
            · cases h1
            · exact h1 e
          have hsz := hbw.size
          have hw1 : IntKind.i64.wrap (r0 + (j : Int)) = r0 + (j : Int) := by rw [IntKind.wrap_i64]; omega
          have hw2 : IntKind.i64.wrap (r0 + (j : Int) + 32) = r0 + (j : Int) + 32 := by rw [IntKind.wrap_i64]; omega
          have hw3 : IntKind.i64.wrap (r1 + 32) = r1 + 32 := by rw [IntKind.wrap_i64]; omega
          go_wp2_with fail
          go_region_held_law (fun w' => w'.cell? ⟨h, 0, none⟩ = some (.int .i64 r0) ∧ w'.cell? ⟨h, 1, none⟩ = some (.int .i64 r1)) (first | exact ⟨far3 _ _ _ _ _ _ hlh d0, far3 _ _ _ _ _ _ hlh d1⟩ | exact ⟨k0, k1⟩ | go_keep)
            (first
              | (refine step_append_lies _ rfl (.tmp 44) (.tmp 67) 51 rfl w.heap.size 35 i0 (.slice none 0 0) 1 24 Tryz.underlying51 hi hzz hz1 hz2 rfl (by decide) _ _ vs (by simp [Act.eval]) (((hown.alloc _).alloc _).alloc _) ⟨wr.heap.size + 1 + 1, 0, none⟩ 2 2 [(.slice (some ⟨wr.heap.size, 0, none⟩) 3 3), (.slice (some ⟨wr.heap.size + 1, 0, none⟩) 3 3)] (by simp [Act.eval]) rfl (news2 _ _ _ _ _ _) (fun x hx => by simp at hx; rcases hx with rfl | rfl <;> rfl) (by omega) (by unfold maxLen; omega) (by omega) (by simp; omega) (wr.heap.size + 1 + 1 + 1) (by simp) ?_; intro g' cap' w' hown' hgr' hgg' hlt'; have k0 : w'.cell? ⟨h, 0, none⟩ = some (.int .i64 r0) := (hgr'.cell_far ⟨h, 0, none⟩ (by simp; omega) hfar).trans (far3 _ _ _ _ _ _ hlh d0); have k1 : w'.cell? ⟨h, 1, none⟩ = some (.int .i64 r1) := (hgr'.cell_far ⟨h, 1, none⟩ (by simp; omega) hfar).trans (far3 _ _ _ _ _ _ hlh d1))
              | (refine step_append_lies _ rfl (.tmp 44) (.tmp 67) 51 rfl w.heap.size 35 i0 (.slice none 0 0) 1 24 Tryz.underlying51 hi hzz hz1 hz2 rfl (by decide) _ _ vs (by simp [Act.eval]) (((hown.alloc _).alloc _).alloc _) ⟨wr.heap.size + 1 + 1, 0, none⟩ 2 2 [(.slice (some ⟨wr.heap.size + 1, 0, none⟩) 3 3), (.slice (some ⟨wr.heap.size, 0, none⟩) 3 3)] (by simp [Act.eval]) rfl (news2 _ _ _ _ _ _) (fun x hx => by simp at hx; rcases hx with rfl | rfl <;> rfl) (by omega) (by unfold maxLen; omega) (by omega) (by simp; omega) (wr.heap.size + 1 + 1 + 1) (by simp) ?_; intro g' cap' w' hown' hgr' hgg' hlt'; have k0 : w'.cell? ⟨h, 0, none⟩ = some (.int .i64 r0) := (hgr'.cell_far ⟨h, 0, none⟩ (by simp; omega) hfar).trans (far3 _ _ _ _ _ _ hlh d0); have k1 : w'.cell? ⟨h, 1, none⟩ = some (.int .i64 r1) := (hgr'.cell_far ⟨h, 1, none⟩ (by simp; omega) hfar).trans (far3 _ _ _ _ _ _ hlh d1)))
          · go_wp2
            have hIR := irel_step HN.out _ _ _ hjl HM.out hown hin hR hI hne hbw _ _ (ints_block _ rfl (heap3 wr _ _ _).1 (by omega) (by unfold maxLen; simp)) (ints_block _ rfl (heap3 wr _ _ _).2 (by omega) (by unfold maxLen; simp)) hown' (grown_drew hgr') hgg'
            go_roundw
            case rel => first | exact hIR | ((repeat apply Exists.intro); exact ⟨hIR, rfl⟩)
            case measure => simp [intOf]; omega
          · go_wp2
            have hIR := irel_step HN.out _ _ _ hjl HM.out hown hin hR hI hne hbw _ _ (ints_block _ rfl (heap3 wr _ _ _).2 (by omega) (by unfold maxLen; simp)) (ints_block _ rfl (heap3 wr _ _ _).1 (by omega) (by unfold maxLen; simp)) hown' (grown_drew hgr') hgg'
            go_roundw
            case rel => first | exact hIR | ((repeat apply Exists.intro); exact ⟨hIR, rfl⟩)
            case measure => simp [intOf]; omega
        · rw [expand_all r0 r1 ms j hjl, ← take_next HROW.out] at hT
          go_wp2
          exact ⟨⟨k + 1, by omega, by go_num, hT, hR, hne, hbw⟩, by simp [intOf]; omega⟩
    · have hk8 : k = 8 := by omega
      subst hk8
      go_wp2
      go_ret
      exact ⟨_, rfl, hT, hbw⟩
end Go.Proofs.YtinjldagfhbioaaGreatDoor
