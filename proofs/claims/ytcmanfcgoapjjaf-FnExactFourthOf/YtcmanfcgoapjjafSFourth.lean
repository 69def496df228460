/- Contract of the specification's l4Fourth. -/
import Derived.Test.YtcmanfcgoapjjafFour
import Derived.Test.YtcmanfcgoapjjafRowKinds
namespace Go.Proofs.Ytcmanfcgoapjjaf
open Go.RowKit

def FoRel (w : World) (sh : Bool) (es : List El) (v6 v7 bv iv : Value) (wr : World) : Prop :=
  ∃ (k : Nat) (fs : List Int) (xs : List El) (b : Bool), k ≤ es.length ∧ iv = .int .i64 k ∧ bv = .bool b ∧ fourS sh es k = (fs, xs, b) ∧ Ints wr w.heap.size v6 fs ∧ Elems wr w.heap.size v7 xs ∧ Below w.heap.size w wr

set_option maxRecDepth 100000 in
set_option maxHeartbeats 8000000 in
theorem fourth_row (w : World) (B g cap : Nat) (es : List El) (sh : Bool) (hz : es.length ≤ 1048576) (hL : Elems w B (.slice (some ⟨g, 0, none⟩) es.length cap) es) :
    Calls Try.prog 14 #[.slice (some ⟨g, 0, none⟩) es.length cap, .bool sh] w fun e w' => ∃ v v', e = .returned (.tuple #[v, v']) ∧ Ints w' w.heap.size v (fourths sh es) ∧ Elems w' w.heap.size v' (counted sh es) ∧ Below w.heap.size w w' := by
  obtain ⟨i0, hi0, hz0, hs0, hy0⟩ := info_parts info_int
  obtain ⟨i1, hi1, hz1, hs1, hy1⟩ := info_parts info_elem
  go_enter Try.func14, Try.ntmps14
  go_wp2
  go_loopw [6, 7, 8, 14] (fun v6 v7 bv iv wr => FoRel w sh es v6 v7 bv iv wr) (fun _ _ _ iv _ => es.length - (intOf iv).toNat)
  case atStart => exact ⟨0, [], [], false, Nat.zero_le _, rfl, rfl, rfl, World.ownsRow_nil _ _ _ _, World.ownsRow_nil _ _ _ _, Below.refl _ _⟩
  case round =>
    obtain ⟨k, fs, xs, b, hk, rfl, rfl, hf, hI, hE, hbw⟩ := hrel
    have hfl := fourS_len sh es k
    rw [hf] at hfl
    have hfl1 : fs.length ≤ k := hfl.1
    have hfl2 : xs.length ≤ k := hfl.2
    have HF : Hid (fourS sh es k = (fs, xs, b)) := hf
    clear hf hfl
    by_cases hlt : k < es.length
    · obtain ⟨e, he⟩ : ∃ e, es[k]? = some e := ⟨_, List.getElem?_eq_getElem hlt⟩
      have hS2 := fourS_succ he HF.out
      obtain ⟨a0, a1, a2, a3⟩ := (hL.below hbw).cells k e he
      have hk8 : (k : Int) < (es.length : Int) := by omega
      have hsz := hbw.size
      unfold Ints at hI
      unfold Elems at hE
      clear he HF hL
      cases sh
      · rw [four1_plain] at hS2
        have HS2 : Hid _ := hS2
        clear hS2
        have hblk : (wr.alloc (.cells #[.int .i64 e.first, .int .i64 e.second, .int .i64 e.third, .bool e.varies] 37)).heap[wr.heap.size]? = some (.cells #[.int .i64 e.first, .int .i64 e.second, .int .i64 e.third, .bool e.varies] 37) := heap_alloc_new wr _
        have HBLK : Hid _ := hblk
        clear hblk
        go_wp2_with (at_builtin; refine wpList_append_own _ rfl _ _ 24 rfl w.heap.size 3 i0 (.int .i64 0) 1 8 Try.underlying24 hi0 hz0 hs0 hy0 rfl (by decide) _ _ _ rfl ((hI.alloc _).alloc _) ⟨wr.heap.size + 1, 0, none⟩ 1 1 [.int .i64 65535] rfl rfl (cells1_at _ _ _ _ (by simp)) (fun u hu => by simp at hu; subst hu; rfl) (by unfold maxLen; omega) (by omega) (by simp; omega) ?_)
        intro v6' w2 ho2 hg2 _
        have hI2 : Ints w2 w.heap.size v6' (fs ++ [65535]) := Ints.snoc ho2
        have hE2 : Elems w2 w.heap.size u7 xs := World.ownsRow.kept ((hE.alloc _).alloc _) hg2 (own_type hE hI (by decide))
        have hlow := fun j hj => (World.ownsRow.lt hI j hj).2
        have hb2 : w2.heap[wr.heap.size]? = some (.cells #[.int .i64 e.first, .int .i64 e.second, .int .i64 e.third, .bool e.varies] 37) := by
          rw [hg2.block wr.heap.size (by simp; omega) (fun c => by have := hlow wr.heap.size c.symm; omega), Below.heap_alloc _ _ _ (by simp)]; exact HBLK.out
        have hbw2 : Below w.heap.size w w2 := Below.grown ((hbw.alloc hbw.size _).alloc (hbw.alloc hbw.size _).size _) hg2 ((hbw.alloc hbw.size _).alloc (hbw.alloc hbw.size _).size _).size (fun j hj => (World.ownsRow.lt hI j hj).1)
        have d0 := cell_of_row _ _ 0 _ _ _ hb2
        have d1 := cell_of_row _ _ 1 _ _ _ hb2
        have d2 := cell_of_row _ _ 2 _ _ _ hb2
        have d3 := cell_of_row _ _ 3 _ _ _ hb2
        have hsz2 := hbw2.size
        have HI2 : Hid (Ints _ _ _ _) := hI2
        have HB2 : Hid (Below _ _ _) := hbw2
        clear ho2 hg2 hb2 HBLK hlow hI hE hI2 hbw2 a0 a1 a2 a3
        unfold Elems at hE2
        go_wp2_with (at_builtin; refine wpList_append_own _ rfl _ _ 25 rfl w.heap.size 37 i1 _ 4 32 Try.underlying25 hi1 hz1 hs1 hy1 rfl (by decide) _ _ _ rfl (hE2.alloc _) ⟨w2.heap.size, 0, none⟩ 1 1 (elC e) rfl rfl (cells4_at _ _ e _ (by simp)) ?hone (by unfold maxLen; omega) (by omega) (by simp; omega) ?_)
        case hone =>
          intro u hu
          simp [elC] at hu
          rcases hu with rfl | rfl | rfl | rfl <;> rfl
        intro v7' w3 ho3 hg3 _
        have hE3 : Elems w3 w.heap.size v7' (xs ++ [e]) := Elems.snoc ho3
        have hI3 : Ints w3 w.heap.size v6' (fs ++ [65535]) := World.ownsRow.kept (World.ownsRow.alloc HI2.out _) hg3 (own_type HI2.out hE2 (by decide))
        have hbw3 : Below w.heap.size w w3 := Below.grown (HB2.out.alloc HB2.out.size _) hg3 (HB2.out.alloc HB2.out.size _).size (fun j hj => (World.ownsRow.lt hE2 j hj).1)
        have HE3 : Hid (Elems _ _ _ _) := hE3
        have HI3 : Hid (Ints _ _ _ _) := hI3
        have HB3 : Hid (Below _ _ _) := hbw3
        clear ho3 hg3 hE3 hI3 hbw3 HI2 HB2 d0 d1 d2 d3 hE2
        go_wp2
        exact ⟨⟨k + 1, _, _, b, hlt, by go_num, rfl, HS2.out, HI3.out, HE3.out, HB3.out⟩, by simp [intOf]; omega⟩
      · cases hv : e.varies
        · rw [hv] at a3
          by_cases h0 : e.first = 0
          · rw [h0] at a0
            cases b
            · by_cases h1 : e.second = 0
              · rw [h1] at a1
                by_cases h2 : e.third = 0
                · rw [h2] at a2
                  rw [four1_zero hv h0 h1 h2] at hS2
                  have HS2 : Hid _ := hS2
                  clear hS2
                  have he2 : e = ⟨0, 0, 0, false⟩ := by cases e; simp_all
                  rw [he2] at HS2
                  have hblk : (wr.alloc (.cells #[.int .i64 0, .int .i64 0, .int .i64 0, .bool false] 37)).heap[wr.heap.size]? = some (.cells #[.int .i64 0, .int .i64 0, .int .i64 0, .bool false] 37) := heap_alloc_new wr _
                  have HBLK : Hid _ := hblk
                  clear hblk
                  go_wp2_with (at_builtin; refine wpList_append_own _ rfl _ _ 24 rfl w.heap.size 3 i0 (.int .i64 0) 1 8 Try.underlying24 hi0 hz0 hs0 hy0 rfl (by decide) _ _ _ rfl ((hI.alloc _).alloc _) ⟨wr.heap.size + 1, 0, none⟩ 1 1 [.int .i64 0] rfl rfl (cells1_at _ _ _ _ (by simp)) (fun u hu => by simp at hu; subst hu; rfl) (by unfold maxLen; omega) (by omega) (by simp; omega) ?_)
                  intro v6' w2 ho2 hg2 _
                  have hI2 : Ints w2 w.heap.size v6' (fs ++ [0]) := Ints.snoc ho2
                  have hE2 : Elems w2 w.heap.size u7 xs := World.ownsRow.kept ((hE.alloc _).alloc _) hg2 (own_type hE hI (by decide))
                  have hlow := fun j hj => (World.ownsRow.lt hI j hj).2
                  have hb2 : w2.heap[wr.heap.size]? = some (.cells #[.int .i64 0, .int .i64 0, .int .i64 0, .bool false] 37) := by
                    rw [hg2.block wr.heap.size (by simp; omega) (fun c => by have := hlow wr.heap.size c.symm; omega), Below.heap_alloc _ _ _ (by simp)]; exact HBLK.out
                  have hbw2 : Below w.heap.size w w2 := Below.grown ((hbw.alloc hbw.size _).alloc (hbw.alloc hbw.size _).size _) hg2 ((hbw.alloc hbw.size _).alloc (hbw.alloc hbw.size _).size _).size (fun j hj => (World.ownsRow.lt hI j hj).1)
                  have d0 := cell_of_row _ _ 0 _ _ _ hb2
                  have d1 := cell_of_row _ _ 1 _ _ _ hb2
                  have d2 := cell_of_row _ _ 2 _ _ _ hb2
                  have d3 := cell_of_row _ _ 3 _ _ _ hb2
                  have hsz2 := hbw2.size
                  have HI2 : Hid (Ints _ _ _ _) := hI2
                  have HB2 : Hid (Below _ _ _) := hbw2
                  clear ho2 hg2 hb2 HBLK hlow hI hE hI2 hbw2 a0 a1 a2 a3
                  unfold Elems at hE2
                  go_wp2_with (at_builtin; refine wpList_append_own _ rfl _ _ 25 rfl w.heap.size 37 i1 _ 4 32 Try.underlying25 hi1 hz1 hs1 hy1 rfl (by decide) _ _ _ rfl (hE2.alloc _) ⟨w2.heap.size, 0, none⟩ 1 1 (elC (⟨0, 0, 0, false⟩ : El)) rfl rfl (cells4_at _ _ (⟨0, 0, 0, false⟩ : El) _ (by simp)) ?hone (by unfold maxLen; omega) (by omega) (by simp; omega) ?_)
                  case hone =>
                    intro u hu
                    simp [elC] at hu
                    rcases hu with rfl | rfl | rfl | rfl <;> rfl
                  intro v7' w3 ho3 hg3 _
                  have hE3 : Elems w3 w.heap.size v7' (xs ++ [(⟨0, 0, 0, false⟩ : El)]) := Elems.snoc ho3
                  have hI3 : Ints w3 w.heap.size v6' (fs ++ [0]) := World.ownsRow.kept (World.ownsRow.alloc HI2.out _) hg3 (own_type HI2.out hE2 (by decide))
                  have hbw3 : Below w.heap.size w w3 := Below.grown (HB2.out.alloc HB2.out.size _) hg3 (HB2.out.alloc HB2.out.size _).size (fun j hj => (World.ownsRow.lt hE2 j hj).1)
                  have HE3 : Hid (Elems _ _ _ _) := hE3
                  have HI3 : Hid (Ints _ _ _ _) := hI3
                  have HB3 : Hid (Below _ _ _) := hbw3
                  clear ho3 hg3 hE3 hI3 hbw3 HI2 HB2 d0 d1 d2 d3 hE2
                  go_wp2
                  exact ⟨⟨k + 1, _, _, false, hlt, by go_num, rfl, HS2.out, HI3.out, HE3.out, HB3.out⟩, by simp [intOf]; omega⟩
                · rw [four1_some hv h0 (fun c => h2 c.2)] at hS2
                  have HS2 : Hid _ := hS2
                  have h2' : (e.third == 0) = false := by simpa using h2
                  clear hS2
                  have he2 : e = ⟨0, 0, e.third, false⟩ := by cases e; simp_all
                  rw [he2] at HS2
                  clear he2
                  have hblk : (wr.alloc (.cells #[.int .i64 0, .int .i64 0, .int .i64 e.third, .bool false] 37)).heap[wr.heap.size]? = some (.cells #[.int .i64 0, .int .i64 0, .int .i64 e.third, .bool false] 37) := heap_alloc_new wr _
                  have HBLK : Hid _ := hblk
                  clear hblk
                  go_wp2_with (at_builtin; refine wpList_append_own _ rfl _ _ 24 rfl w.heap.size 3 i0 (.int .i64 0) 1 8 Try.underlying24 hi0 hz0 hs0 hy0 rfl (by decide) _ _ _ rfl ((hI.alloc _).alloc _) ⟨wr.heap.size + 1, 0, none⟩ 1 1 [.int .i64 65535] rfl rfl (cells1_at _ _ _ _ (by simp)) (fun u hu => by simp at hu; subst hu; rfl) (by unfold maxLen; omega) (by omega) (by simp; omega) ?_)
                  intro v6' w2 ho2 hg2 _
                  have hI2 : Ints w2 w.heap.size v6' (fs ++ [65535]) := Ints.snoc ho2
                  have hE2 : Elems w2 w.heap.size u7 xs := World.ownsRow.kept ((hE.alloc _).alloc _) hg2 (own_type hE hI (by decide))
                  have hlow := fun j hj => (World.ownsRow.lt hI j hj).2
                  have hb2 : w2.heap[wr.heap.size]? = some (.cells #[.int .i64 0, .int .i64 0, .int .i64 e.third, .bool false] 37) := by
                    rw [hg2.block wr.heap.size (by simp; omega) (fun c => by have := hlow wr.heap.size c.symm; omega), Below.heap_alloc _ _ _ (by simp)]; exact HBLK.out
                  have hbw2 : Below w.heap.size w w2 := Below.grown ((hbw.alloc hbw.size _).alloc (hbw.alloc hbw.size _).size _) hg2 ((hbw.alloc hbw.size _).alloc (hbw.alloc hbw.size _).size _).size (fun j hj => (World.ownsRow.lt hI j hj).1)
                  have d0 := cell_of_row _ _ 0 _ _ _ hb2
                  have d1 := cell_of_row _ _ 1 _ _ _ hb2
                  have d2 := cell_of_row _ _ 2 _ _ _ hb2
                  have d3 := cell_of_row _ _ 3 _ _ _ hb2
                  have hsz2 := hbw2.size
                  have HI2 : Hid (Ints _ _ _ _) := hI2
                  have HB2 : Hid (Below _ _ _) := hbw2
                  clear ho2 hg2 hb2 HBLK hlow hI hE hI2 hbw2 a0 a1 a2 a3
                  unfold Elems at hE2
                  go_wp2_with (at_builtin; refine wpList_append_own _ rfl _ _ 25 rfl w.heap.size 37 i1 _ 4 32 Try.underlying25 hi1 hz1 hs1 hy1 rfl (by decide) _ _ _ rfl (hE2.alloc _) ⟨w2.heap.size, 0, none⟩ 1 1 (elC (⟨0, 0, e.third, false⟩ : El)) rfl rfl (cells4_at _ _ (⟨0, 0, e.third, false⟩ : El) _ (by simp)) ?hone (by unfold maxLen; omega) (by omega) (by simp; omega) ?_)
                  case hone =>
                    intro u hu
                    simp [elC] at hu
                    rcases hu with rfl | rfl | rfl | rfl <;> rfl
                  intro v7' w3 ho3 hg3 _
                  have hE3 : Elems w3 w.heap.size v7' (xs ++ [(⟨0, 0, e.third, false⟩ : El)]) := Elems.snoc ho3
                  have hI3 : Ints w3 w.heap.size v6' (fs ++ [65535]) := World.ownsRow.kept (World.ownsRow.alloc HI2.out _) hg3 (own_type HI2.out hE2 (by decide))
                  have hbw3 : Below w.heap.size w w3 := Below.grown (HB2.out.alloc HB2.out.size _) hg3 (HB2.out.alloc HB2.out.size _).size (fun j hj => (World.ownsRow.lt hE2 j hj).1)
                  have HE3 : Hid (Elems _ _ _ _) := hE3
                  have HI3 : Hid (Ints _ _ _ _) := hI3
                  have HB3 : Hid (Below _ _ _) := hbw3
                  clear ho3 hg3 hE3 hI3 hbw3 HI2 HB2 d0 d1 d2 d3 hE2
                  go_wp2
                  exact ⟨⟨k + 1, _, _, false, hlt, by go_num, rfl, HS2.out, HI3.out, HE3.out, HB3.out⟩, by simp [intOf]; omega⟩
              · rw [four1_some hv h0 (fun c => h1 c.1)] at hS2
                have HS2 : Hid _ := hS2
                have h1' : (e.second == 0) = false := by simpa using h1
                clear hS2
                have he2 : e = ⟨0, e.second, e.third, false⟩ := by cases e; simp_all
                rw [he2] at HS2
                clear he2
                have hblk : (wr.alloc (.cells #[.int .i64 0, .int .i64 e.second, .int .i64 e.third, .bool false] 37)).heap[wr.heap.size]? = some (.cells #[.int .i64 0, .int .i64 e.second, .int .i64 e.third, .bool false] 37) := heap_alloc_new wr _
                have HBLK : Hid _ := hblk
                clear hblk
                go_wp2_with (at_builtin; refine wpList_append_own _ rfl _ _ 24 rfl w.heap.size 3 i0 (.int .i64 0) 1 8 Try.underlying24 hi0 hz0 hs0 hy0 rfl (by decide) _ _ _ rfl ((hI.alloc _).alloc _) ⟨wr.heap.size + 1, 0, none⟩ 1 1 [.int .i64 65535] rfl rfl (cells1_at _ _ _ _ (by simp)) (fun u hu => by simp at hu; subst hu; rfl) (by unfold maxLen; omega) (by omega) (by simp; omega) ?_)
                intro v6' w2 ho2 hg2 _
                have hI2 : Ints w2 w.heap.size v6' (fs ++ [65535]) := Ints.snoc ho2
                have hE2 : Elems w2 w.heap.size u7 xs := World.ownsRow.kept ((hE.alloc _).alloc _) hg2 (own_type hE hI (by decide))
                have hlow := fun j hj => (World.ownsRow.lt hI j hj).2
                have hb2 : w2.heap[wr.heap.size]? = some (.cells #[.int .i64 0, .int .i64 e.second, .int .i64 e.third, .bool false] 37) := by
                  rw [hg2.block wr.heap.size (by simp; omega) (fun c => by have := hlow wr.heap.size c.symm; omega), Below.heap_alloc _ _ _ (by simp)]; exact HBLK.out
                have hbw2 : Below w.heap.size w w2 := Below.grown ((hbw.alloc hbw.size _).alloc (hbw.alloc hbw.size _).size _) hg2 ((hbw.alloc hbw.size _).alloc (hbw.alloc hbw.size _).size _).size (fun j hj => (World.ownsRow.lt hI j hj).1)
                have d0 := cell_of_row _ _ 0 _ _ _ hb2
                have d1 := cell_of_row _ _ 1 _ _ _ hb2
                have d2 := cell_of_row _ _ 2 _ _ _ hb2
                have d3 := cell_of_row _ _ 3 _ _ _ hb2
                have hsz2 := hbw2.size
                have HI2 : Hid (Ints _ _ _ _) := hI2
                have HB2 : Hid (Below _ _ _) := hbw2
                clear ho2 hg2 hb2 HBLK hlow hI hE hI2 hbw2 a0 a1 a2 a3
                unfold Elems at hE2
                go_wp2_with (at_builtin; refine wpList_append_own _ rfl _ _ 25 rfl w.heap.size 37 i1 _ 4 32 Try.underlying25 hi1 hz1 hs1 hy1 rfl (by decide) _ _ _ rfl (hE2.alloc _) ⟨w2.heap.size, 0, none⟩ 1 1 (elC (⟨0, e.second, e.third, false⟩ : El)) rfl rfl (cells4_at _ _ (⟨0, e.second, e.third, false⟩ : El) _ (by simp)) ?hone (by unfold maxLen; omega) (by omega) (by simp; omega) ?_)
                case hone =>
                  intro u hu
                  simp [elC] at hu
                  rcases hu with rfl | rfl | rfl | rfl <;> rfl
                intro v7' w3 ho3 hg3 _
                have hE3 : Elems w3 w.heap.size v7' (xs ++ [(⟨0, e.second, e.third, false⟩ : El)]) := Elems.snoc ho3
                have hI3 : Ints w3 w.heap.size v6' (fs ++ [65535]) := World.ownsRow.kept (World.ownsRow.alloc HI2.out _) hg3 (own_type HI2.out hE2 (by decide))
                have hbw3 : Below w.heap.size w w3 := Below.grown (HB2.out.alloc HB2.out.size _) hg3 (HB2.out.alloc HB2.out.size _).size (fun j hj => (World.ownsRow.lt hE2 j hj).1)
                have HE3 : Hid (Elems _ _ _ _) := hE3
                have HI3 : Hid (Ints _ _ _ _) := hI3
                have HB3 : Hid (Below _ _ _) := hbw3
                clear ho3 hg3 hE3 hI3 hbw3 HI2 HB2 d0 d1 d2 d3 hE2
                go_wp2
                exact ⟨⟨k + 1, _, _, false, hlt, by go_num, rfl, HS2.out, HI3.out, HE3.out, HB3.out⟩, by simp [intOf]; omega⟩
            · rw [four1_gone hv h0] at hS2
              have HS2 : Hid _ := hS2
              clear hS2
              have hblk : (wr.alloc (.cells #[.int .i64 0, .int .i64 0, .int .i64 0, .bool false] 37)).heap[wr.heap.size]? = some (.cells #[.int .i64 0, .int .i64 0, .int .i64 0, .bool false] 37) := heap_alloc_new wr _
              have HBLK : Hid _ := hblk
              clear hblk
              go_wp2_with (at_builtin; refine wpList_append_own _ rfl _ _ 24 rfl w.heap.size 3 i0 (.int .i64 0) 1 8 Try.underlying24 hi0 hz0 hs0 hy0 rfl (by decide) _ _ _ rfl ((hI.alloc _).alloc _) ⟨wr.heap.size + 1, 0, none⟩ 1 1 [.int .i64 0] rfl rfl (cells1_at _ _ _ _ (by simp)) (fun u hu => by simp at hu; subst hu; rfl) (by unfold maxLen; omega) (by omega) (by simp; omega) ?_)
              intro v6' w2 ho2 hg2 _
              have hI2 : Ints w2 w.heap.size v6' (fs ++ [0]) := Ints.snoc ho2
              have hE2 : Elems w2 w.heap.size u7 xs := World.ownsRow.kept ((hE.alloc _).alloc _) hg2 (own_type hE hI (by decide))
              have hlow := fun j hj => (World.ownsRow.lt hI j hj).2
              have hb2 : w2.heap[wr.heap.size]? = some (.cells #[.int .i64 0, .int .i64 0, .int .i64 0, .bool false] 37) := by
                rw [hg2.block wr.heap.size (by simp; omega) (fun c => by have := hlow wr.heap.size c.symm; omega), Below.heap_alloc _ _ _ (by simp)]; exact HBLK.out
              have hbw2 : Below w.heap.size w w2 := Below.grown ((hbw.alloc hbw.size _).alloc (hbw.alloc hbw.size _).size _) hg2 ((hbw.alloc hbw.size _).alloc (hbw.alloc hbw.size _).size _).size (fun j hj => (World.ownsRow.lt hI j hj).1)
              have d0 := cell_of_row _ _ 0 _ _ _ hb2
              have d1 := cell_of_row _ _ 1 _ _ _ hb2
              have d2 := cell_of_row _ _ 2 _ _ _ hb2
              have d3 := cell_of_row _ _ 3 _ _ _ hb2
              have hsz2 := hbw2.size
              have HI2 : Hid (Ints _ _ _ _) := hI2
              have HB2 : Hid (Below _ _ _) := hbw2
              clear ho2 hg2 hb2 HBLK hlow hI hE hI2 hbw2 a0 a1 a2 a3
              unfold Elems at hE2
              go_wp2_with (at_builtin; refine wpList_append_own _ rfl _ _ 25 rfl w.heap.size 37 i1 _ 4 32 Try.underlying25 hi1 hz1 hs1 hy1 rfl (by decide) _ _ _ rfl (hE2.alloc _) ⟨w2.heap.size, 0, none⟩ 1 1 (elC elZ) rfl rfl (cells4_at _ _ elZ _ (by simp)) ?hone (by unfold maxLen; omega) (by omega) (by simp; omega) ?_)
              case hone =>
                intro u hu
                simp [elC] at hu
                rcases hu with rfl | rfl | rfl | rfl <;> rfl
              intro v7' w3 ho3 hg3 _
              have hE3 : Elems w3 w.heap.size v7' (xs ++ [elZ]) := Elems.snoc ho3
              have hI3 : Ints w3 w.heap.size v6' (fs ++ [0]) := World.ownsRow.kept (World.ownsRow.alloc HI2.out _) hg3 (own_type HI2.out hE2 (by decide))
              have hbw3 : Below w.heap.size w w3 := Below.grown (HB2.out.alloc HB2.out.size _) hg3 (HB2.out.alloc HB2.out.size _).size (fun j hj => (World.ownsRow.lt hE2 j hj).1)
              have HE3 : Hid (Elems _ _ _ _) := hE3
              have HI3 : Hid (Ints _ _ _ _) := hI3
              have HB3 : Hid (Below _ _ _) := hbw3
              clear ho3 hg3 hE3 hI3 hbw3 HI2 HB2 d0 d1 d2 d3 hE2
              go_wp2
              exact ⟨⟨k + 1, _, _, true, hlt, by go_num, rfl, HS2.out, HI3.out, HE3.out, HB3.out⟩, by simp [intOf]; omega⟩
          · rw [four1_first hv h0] at hS2
            have HS2 : Hid _ := hS2
            have h0' : (e.first == 0) = false := by simpa using h0
            clear hS2
            have he2 : e = ⟨e.first, e.second, e.third, false⟩ := by cases e; simp_all
            rw [he2] at HS2
            clear he2
            have hblk : (wr.alloc (.cells #[.int .i64 e.first, .int .i64 e.second, .int .i64 e.third, .bool false] 37)).heap[wr.heap.size]? = some (.cells #[.int .i64 e.first, .int .i64 e.second, .int .i64 e.third, .bool false] 37) := heap_alloc_new wr _
            have HBLK : Hid _ := hblk
            clear hblk
            go_wp2_with (at_builtin; refine wpList_append_own _ rfl _ _ 24 rfl w.heap.size 3 i0 (.int .i64 0) 1 8 Try.underlying24 hi0 hz0 hs0 hy0 rfl (by decide) _ _ _ rfl ((hI.alloc _).alloc _) ⟨wr.heap.size + 1, 0, none⟩ 1 1 [.int .i64 65535] rfl rfl (cells1_at _ _ _ _ (by simp)) (fun u hu => by simp at hu; subst hu; rfl) (by unfold maxLen; omega) (by omega) (by simp; omega) ?_)
            intro v6' w2 ho2 hg2 _
            have hI2 : Ints w2 w.heap.size v6' (fs ++ [65535]) := Ints.snoc ho2
            have hE2 : Elems w2 w.heap.size u7 xs := World.ownsRow.kept ((hE.alloc _).alloc _) hg2 (own_type hE hI (by decide))
            have hlow := fun j hj => (World.ownsRow.lt hI j hj).2
            have hb2 : w2.heap[wr.heap.size]? = some (.cells #[.int .i64 e.first, .int .i64 e.second, .int .i64 e.third, .bool false] 37) := by
              rw [hg2.block wr.heap.size (by simp; omega) (fun c => by have := hlow wr.heap.size c.symm; omega), Below.heap_alloc _ _ _ (by simp)]; exact HBLK.out
            have hbw2 : Below w.heap.size w w2 := Below.grown ((hbw.alloc hbw.size _).alloc (hbw.alloc hbw.size _).size _) hg2 ((hbw.alloc hbw.size _).alloc (hbw.alloc hbw.size _).size _).size (fun j hj => (World.ownsRow.lt hI j hj).1)
            have d0 := cell_of_row _ _ 0 _ _ _ hb2
            have d1 := cell_of_row _ _ 1 _ _ _ hb2
            have d2 := cell_of_row _ _ 2 _ _ _ hb2
            have d3 := cell_of_row _ _ 3 _ _ _ hb2
            have hsz2 := hbw2.size
            have HI2 : Hid (Ints _ _ _ _) := hI2
            have HB2 : Hid (Below _ _ _) := hbw2
            clear ho2 hg2 hb2 HBLK hlow hI hE hI2 hbw2 a0 a1 a2 a3
            unfold Elems at hE2
            go_wp2_with (at_builtin; refine wpList_append_own _ rfl _ _ 25 rfl w.heap.size 37 i1 _ 4 32 Try.underlying25 hi1 hz1 hs1 hy1 rfl (by decide) _ _ _ rfl (hE2.alloc _) ⟨w2.heap.size, 0, none⟩ 1 1 (elC (⟨e.first, e.second, e.third, false⟩ : El)) rfl rfl (cells4_at _ _ (⟨e.first, e.second, e.third, false⟩ : El) _ (by simp)) ?hone (by unfold maxLen; omega) (by omega) (by simp; omega) ?_)
            case hone =>
              intro u hu
              simp [elC] at hu
              rcases hu with rfl | rfl | rfl | rfl <;> rfl
            intro v7' w3 ho3 hg3 _
            have hE3 : Elems w3 w.heap.size v7' (xs ++ [(⟨e.first, e.second, e.third, false⟩ : El)]) := Elems.snoc ho3
            have hI3 : Ints w3 w.heap.size v6' (fs ++ [65535]) := World.ownsRow.kept (World.ownsRow.alloc HI2.out _) hg3 (own_type HI2.out hE2 (by decide))
            have hbw3 : Below w.heap.size w w3 := Below.grown (HB2.out.alloc HB2.out.size _) hg3 (HB2.out.alloc HB2.out.size _).size (fun j hj => (World.ownsRow.lt hE2 j hj).1)
            have HE3 : Hid (Elems _ _ _ _) := hE3
            have HI3 : Hid (Ints _ _ _ _) := hI3
            have HB3 : Hid (Below _ _ _) := hbw3
            clear ho3 hg3 hE3 hI3 hbw3 HI2 HB2 d0 d1 d2 d3 hE2
            go_wp2
            exact ⟨⟨k + 1, _, _, false, hlt, by go_num, rfl, HS2.out, HI3.out, HE3.out, HB3.out⟩, by simp [intOf]; omega⟩
        · rw [hv] at a3
          rw [four1_var hv] at hS2
          have HS2 : Hid _ := hS2
          clear hS2
          have hblk : (wr.alloc (.cells #[.int .i64 0, .int .i64 0, .int .i64 0, .bool false] 37)).heap[wr.heap.size]? = some (.cells #[.int .i64 0, .int .i64 0, .int .i64 0, .bool false] 37) := heap_alloc_new wr _
          have HBLK : Hid _ := hblk
          clear hblk
          go_wp2_with (at_builtin; refine wpList_append_own _ rfl _ _ 24 rfl w.heap.size 3 i0 (.int .i64 0) 1 8 Try.underlying24 hi0 hz0 hs0 hy0 rfl (by decide) _ _ _ rfl ((hI.alloc _).alloc _) ⟨wr.heap.size + 1, 0, none⟩ 1 1 [.int .i64 e.first] rfl rfl (cells1_at _ _ _ _ (by simp)) (fun u hu => by simp at hu; subst hu; rfl) (by unfold maxLen; omega) (by omega) (by simp; omega) ?_)
          intro v6' w2 ho2 hg2 _
          have hI2 : Ints w2 w.heap.size v6' (fs ++ [e.first]) := Ints.snoc ho2
          have hE2 : Elems w2 w.heap.size u7 xs := World.ownsRow.kept ((hE.alloc _).alloc _) hg2 (own_type hE hI (by decide))
          have hlow := fun j hj => (World.ownsRow.lt hI j hj).2
          have hb2 : w2.heap[wr.heap.size]? = some (.cells #[.int .i64 0, .int .i64 0, .int .i64 0, .bool false] 37) := by
            rw [hg2.block wr.heap.size (by simp; omega) (fun c => by have := hlow wr.heap.size c.symm; omega), Below.heap_alloc _ _ _ (by simp)]; exact HBLK.out
          have hbw2 : Below w.heap.size w w2 := Below.grown ((hbw.alloc hbw.size _).alloc (hbw.alloc hbw.size _).size _) hg2 ((hbw.alloc hbw.size _).alloc (hbw.alloc hbw.size _).size _).size (fun j hj => (World.ownsRow.lt hI j hj).1)
          have d0 := cell_of_row _ _ 0 _ _ _ hb2
          have d1 := cell_of_row _ _ 1 _ _ _ hb2
          have d2 := cell_of_row _ _ 2 _ _ _ hb2
          have d3 := cell_of_row _ _ 3 _ _ _ hb2
          have hsz2 := hbw2.size
          have HI2 : Hid (Ints _ _ _ _) := hI2
          have HB2 : Hid (Below _ _ _) := hbw2
          clear ho2 hg2 hb2 HBLK hlow hI hE hI2 hbw2 a0 a1 a2 a3
          unfold Elems at hE2
          go_wp2_with (at_builtin; refine wpList_append_own _ rfl _ _ 25 rfl w.heap.size 37 i1 _ 4 32 Try.underlying25 hi1 hz1 hs1 hy1 rfl (by decide) _ _ _ rfl (hE2.alloc _) ⟨w2.heap.size, 0, none⟩ 1 1 (elC elZ) rfl rfl (cells4_at _ _ elZ _ (by simp)) ?hone (by unfold maxLen; omega) (by omega) (by simp; omega) ?_)
          case hone =>
            intro u hu
            simp [elC] at hu
            rcases hu with rfl | rfl | rfl | rfl <;> rfl
          intro v7' w3 ho3 hg3 _
          have hE3 : Elems w3 w.heap.size v7' (xs ++ [elZ]) := Elems.snoc ho3
          have hI3 : Ints w3 w.heap.size v6' (fs ++ [e.first]) := World.ownsRow.kept (World.ownsRow.alloc HI2.out _) hg3 (own_type HI2.out hE2 (by decide))
          have hbw3 : Below w.heap.size w w3 := Below.grown (HB2.out.alloc HB2.out.size _) hg3 (HB2.out.alloc HB2.out.size _).size (fun j hj => (World.ownsRow.lt hE2 j hj).1)
          have HE3 : Hid (Elems _ _ _ _) := hE3
          have HI3 : Hid (Ints _ _ _ _) := hI3
          have HB3 : Hid (Below _ _ _) := hbw3
          clear ho3 hg3 hE3 hI3 hbw3 HI2 HB2 d0 d1 d2 d3 hE2
          go_wp2
          exact ⟨⟨k + 1, _, _, true, hlt, by go_num, rfl, HS2.out, HI3.out, HE3.out, HB3.out⟩, by simp [intOf]; omega⟩
    · have hk3 : k = es.length := by omega
      subst hk3
      have HF1 : Hid (fourths sh es = fs ∧ counted sh es = xs) := by
        show _ ∧ _
        unfold fourths counted
        rw [HF.out]
        exact ⟨rfl, rfl⟩
      clear HF hL
      go_wp2
      go_ret2
      rw [HF1.out.1, HF1.out.2]
      exact ⟨_, _, rfl, hI, hE, hbw⟩

set_option maxRecDepth 100000 in
set_option maxHeartbeats 1000000 in
theorem fourth_none (w : World) (a : Option Addr) (c : Nat) (sh : Bool) :
    Calls Try.prog 14 #[.slice a 0 c, .bool sh] w fun e w' => ∃ v v', e = .returned (.tuple #[v, v']) ∧ Ints w' w.heap.size v [] ∧ Elems w' w.heap.size v' [] ∧ Below w.heap.size w w' := by
  go_enter Try.func14, Try.ntmps14
  go_wp2
  go_loop [6, 7, 8, 14] (fun v6 v7 bv iv => v6 = .slice none 0 0 ∧ v7 = .slice none 0 0 ∧ bv = .bool false ∧ iv = .int .i64 0) (fun _ _ _ _ => 0)
  case atStart => exact ⟨rfl, rfl, rfl, rfl⟩
  case round =>
    obtain ⟨rfl, rfl, rfl, rfl⟩ := hrel
    go_wp2
    go_ret2
    exact ⟨_, _, rfl, World.ownsRow_nil _ _ _ _, World.ownsRow_nil _ _ _ _, Below.refl _ _⟩

theorem fourth_any {w : World} {B : Nat} {v : Value} {es : List El} (sh : Bool) (hz : es.length ≤ 1048576) (hL : Elems w B v es) :
    Calls Try.prog 14 #[v, .bool sh] w fun e w' => ∃ v v', e = .returned (.tuple #[v, v']) ∧ Ints w' w.heap.size v (fourths sh es) ∧ Elems w' w.heap.size v' (counted sh es) ∧ Below w.heap.size w w' := by
  rcases hL.form with ⟨rfl, rfl⟩ | ⟨g, cap, rfl, _, _⟩
  · exact fourth_none w _ _ sh
  · exact fourth_row w B g cap es sh hz hL
end Go.Proofs.Ytcmanfcgoapjjaf
