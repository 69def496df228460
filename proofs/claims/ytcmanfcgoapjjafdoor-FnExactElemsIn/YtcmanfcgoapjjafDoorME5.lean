/- Texts of mine laid together: SRunes4, SFourth, SKey0, SIn4, EqEl, Elems, MarkE, ToEl, IsRow, ARules. -/
import Derived.Test.YtcmanfcgoapjjafDoorSD
import Derived.Test.YtcmanfcgoapjjafDoorME2
import Derived.Test.YtcmanfcgoapjjafDoorME4
import Derived.Test.YtcmanfcgoapjjafDoorME3
import Derived.Deep.RegionHeld
import Derived.Test.YtcmanfcgoapjjafDoorEl
import Derived.BigQuiet
import Derived.Deep.QuietTactic
import Derived.Test.YtcmanfcgoapjjafDoorResC
import Derived.Test.YtcmanfcgoapjjafDoorProg
import Derived.WalkKit
import Derived.Test.YtcmanfcgoapjjafDoorEnts
import Derived.ProofKit
import Derived.OpenShut
import Derived.LaidMore
import Derived.Deep.Slices
import Derived.Lib.SmallJoins
namespace Go.Proofs.YtcmanfcgoapjjafDoor
open Go.RowKit

set_option maxRecDepth 100000 in
set_option maxHeartbeats 1000000 in
theorem runes4_any (s : ByteArray) (w : World) (hs : s.size ≤ 1073741824) :
    Calls Tryd.prog 40 #[.string s] w fun e w' => ∃ v, e = .returned (.tuple #[v, .bool (ok4 s)]) ∧ (s.size ≤ 200 → Ints w' w.heap.size v (rn4 s)) ∧ Below w.heap.size w w' := by
  by_cases hl : 200 < s.size
  · have h2 : (200 : Int) < (s.size : Int) := by omega
    have HK : Hid (ok4 s = false) := decide_eq_false fun c => by omega
    go_enter Tryd.func40, Tryd.ntmps40
    go_wp2
    go_ret2
    rw [HK.out]
    exact ⟨_, rfl, fun h => absurd h (by omega), Below.refl _ _⟩
  · have h2 : ¬ (200 : Int) < (s.size : Int) := by omega
    have HK : Hid (ok4 s = decide (((rn4 s).length : Int) ≤ 200)) := by
      show _ = _
      unfold ok4
      rw [decide_eq_decide]
      omega
    have DEC := fun w => l1Decode_any s w hs
    have hdl := (Dec.decT_len s.size s (Nat.le_refl _)).1
    have hnl : (rn4 s).length ≤ 1800 := by unfold rn4; rw [nD_len]; have := apD_len (Dec.decT s.size s).1; omega
    have D := fun (u : World) (B : Nat) (v : Value) (h : Ints u B v (Dec.decT s.size s).1) => d_any (by omega) h
    change ∀ (u : World) (B : Nat) (v : Value), Ints u B v (Dec.decT s.size s).1 → Calls Tryd.prog 56 #[v] u fun e w' => ∃ v', e = .returned v' ∧ Ints w' u.heap.size v' (rn4 s) ∧ Below u.heap.size u w' at D
    rw [HK.out]
    clear HK hdl
    generalize rn4 s = l at *
    generalize (Dec.decT s.size s).1 = l0 at *
    generalize (Dec.decT s.size s).2 = n0 at *
    go_enter Tryd.func40, Tryd.ntmps40
    go_wp2_with fail
    refine (DEC _).mono ?_
    rintro e w1 ⟨v1, rfl, i1, b1⟩
    clear DEC
    go_wp2_with fail
    refine (D _ _ _ i1).mono ?_
    rintro e w2 ⟨v2, rfl, i2, b2⟩
    clear D i1
    have i2' := ints_low2 i2 b1.size
    have HB : Hid (Below _ _ _) := b1.trans (b2.mono b1.size)
    obtain ⟨a, c, rfl⟩ : ∃ a c, v2 = .slice a l.length c := by
      rcases i2'.form with ⟨rfl, rfl⟩ | ⟨g, cap, rfl, _, _⟩
      · exact ⟨_, _, rfl⟩
      · exact ⟨_, _, rfl⟩
    have HI : Hid (Ints _ _ _ _) := i2'
    clear i2 i2' b1 b2
    go_wp2
    go_ret2
    exact ⟨_, rfl, fun _ => HI.out, HB.out⟩
end Go.Proofs.YtcmanfcgoapjjafDoor

namespace Go.Proofs.YtcmanfcgoapjjafDoor
open Go.RowKit

def FoRel (w : World) (sh : Bool) (es : List El) (v6 v7 bv iv : Value) (wr : World) : Prop :=
  ∃ (k : Nat) (fs : List Int) (xs : List El) (b : Bool), k ≤ es.length ∧ iv = .int .i64 k ∧ bv = .bool b ∧ fourS sh es k = (fs, xs, b) ∧ Ints wr w.heap.size v6 fs ∧ Elems wr w.heap.size v7 xs ∧ Below w.heap.size w wr

set_option maxRecDepth 100000 in
set_option maxHeartbeats 8000000 in
theorem fourth_row (w : World) (B g cap : Nat) (es : List El) (sh : Bool) (hz : es.length ≤ 1048576) (hL : Elems w B (.slice (some ⟨g, 0, none⟩) es.length cap) es) :
    Calls Tryd.prog 72 #[.slice (some ⟨g, 0, none⟩) es.length cap, .bool sh] w fun e w' => ∃ v v', e = .returned (.tuple #[v, v']) ∧ Ints w' w.heap.size v (fourths sh es) ∧ Elems w' w.heap.size v' (counted sh es) ∧ Below w.heap.size w w' := by
  obtain ⟨i0, hi0, hz0, hs0, hy0⟩ := info_parts info_int
  obtain ⟨i1, hi1, hz1, hs1, hy1⟩ := info_parts info_elem
  go_enter Tryd.func72, Tryd.ntmps72
  go_wp2
  go_loopw [6, 7, 8, 14] (fun v6 v7 bv iv wr => FoRel w sh es v6 v7 bv iv wr) (fun _ _ _ iv _ => es.length - (intOf iv).toNat)
  case atStart => exact ⟨0, [], [], false, Nat.zero_le _, rfl, rfl, rfl, World.ownsRow_nil _ _ _ _, World.ownsRow_nil _ _ _ _, Below.refl _ _⟩
  case round =>
    obtain ⟨k, fs, xs, b, hk, rfl, rfl, hf, hI, hE, hbw⟩ := hrel
    have hfl := fourS_len sh es k
    rw [hf] at hfl
    have hfl1 : fs.length ≤ k := hfl.1
    have hfl2 : xs.length ≤ k := hfl.2
    have HF : Hid (fourS sh es k = (fs, xs, b)) := hf
    clear hf hfl
    by_cases hlt : k < es.length
    · obtain ⟨e, he⟩ : ∃ e, es[k]? = some e := ⟨_, List.getElem?_eq_getElem hlt⟩
      have hS2 := fourS_succ he HF.out
      obtain ⟨a0, a1, a2, a3⟩ := (hL.below hbw).cells k e he
      have hk8 : (k : Int) < (es.length : Int) := by omega
      have hsz := hbw.size
      unfold Ints at hI
      unfold Elems at hE
      clear he HF hL
      cases sh
      · rw [four1_plain] at hS2
        have HS2 : Hid _ := hS2
        clear hS2
        have hblk : (wr.alloc (.cells #[.int .i64 e.first, .int .i64 e.second, .int .i64 e.third, .bool e.varies] 28)).heap[wr.heap.size]? = some (.cells #[.int .i64 e.first, .int .i64 e.second, .int .i64 e.third, .bool e.varies] 28) := heap_alloc_new wr _
        have HBLK : Hid _ := hblk
        clear hblk
        go_wp2_with (at_builtin; refine wpList_append_own _ rfl _ _ 25 rfl w.heap.size 3 i0 (.int .i64 0) 1 8 Tryd.underlying25 hi0 hz0 hs0 hy0 rfl (by decide) _ _ _ rfl ((hI.alloc _).alloc _) ⟨wr.heap.size + 1, 0, none⟩ 1 1 [.int .i64 65535] rfl rfl (cells1_at _ _ _ _ (by simp)) (fun u hu => by simp at hu; subst hu; rfl) (by unfold maxLen; omega) (by omega) (by simp; omega) ?_)
        intro v6' w2 ho2 hg2 _
        have hI2 : Ints w2 w.heap.size v6' (fs ++ [65535]) := Ints.snoc ho2
        have hE2 : Elems w2 w.heap.size u7 xs := World.ownsRow.kept ((hE.alloc _).alloc _) hg2 (own_type hE hI (by decide))
        have hlow := fun j hj => (World.ownsRow.lt hI j hj).2
        have hb2 : w2.heap[wr.heap.size]? = some (.cells #[.int .i64 e.first, .int .i64 e.second, .int .i64 e.third, .bool e.varies] 28) := by
          rw [hg2.block wr.heap.size (by simp; omega) (fun c => by have := hlow wr.heap.size c.symm; omega), Below.heap_alloc _ _ _ (by simp)]; exact HBLK.out
        have hbw2 : Below w.heap.size w w2 := Below.grown ((hbw.alloc hbw.size _).alloc (hbw.alloc hbw.size _).size _) hg2 ((hbw.alloc hbw.size _).alloc (hbw.alloc hbw.size _).size _).size (fun j hj => (World.ownsRow.lt hI j hj).1)
        have d0 := cell_of_row _ _ 0 _ _ _ hb2
        have d1 := cell_of_row _ _ 1 _ _ _ hb2
        have d2 := cell_of_row _ _ 2 _ _ _ hb2
        have d3 := cell_of_row _ _ 3 _ _ _ hb2
        have hsz2 := hbw2.size
        have HI2 : Hid (Ints _ _ _ _) := hI2
        have HB2 : Hid (Below _ _ _) := hbw2
        clear ho2 hg2 hb2 HBLK hlow hI hE hI2 hbw2 a0 a1 a2 a3
        unfold Elems at hE2
        go_wp2_with (at_builtin; refine wpList_append_own _ rfl _ _ 40 rfl w.heap.size 28 i1 _ 4 32 Tryd.underlying40 hi1 hz1 hs1 hy1 rfl (by decide) _ _ _ rfl (hE2.alloc _) ⟨w2.heap.size, 0, none⟩ 1 1 (elC e) rfl rfl (cells4_at _ _ e _ (by simp)) ?hone (by unfold maxLen; omega) (by omega) (by simp; omega) ?_)
        case hone =>
          intro u hu
          simp [elC] at hu
          rcases hu with rfl | rfl | rfl | rfl <;> rfl
        intro v7' w3 ho3 hg3 _
        have hE3 : Elems w3 w.heap.size v7' (xs ++ [e]) := Elems.snoc ho3
        have hI3 : Ints w3 w.heap.size v6' (fs ++ [65535]) := World.ownsRow.kept (World.ownsRow.alloc HI2.out _) hg3 (own_type HI2.out hE2 (by decide))
        have hbw3 : Below w.heap.size w w3 := Below.grown (HB2.out.alloc HB2.out.size _) hg3 (HB2.out.alloc HB2.out.size _).size (fun j hj => (World.ownsRow.lt hE2 j hj).1)
        have HE3 : Hid (Elems _ _ _ _) := hE3
        have HI3 : Hid (Ints _ _ _ _) := hI3
        have HB3 : Hid (Below _ _ _) := hbw3
        clear ho3 hg3 hE3 hI3 hbw3 HI2 HB2 d0 d1 d2 d3 hE2
        go_wp2
        exact ⟨⟨k + 1, _, _, b, hlt, by go_num, rfl, HS2.out, HI3.out, HE3.out, HB3.out⟩, by simp [intOf]; omega⟩
      · cases hv : e.varies
        · rw [hv] at a3
          by_cases h0 : e.first = 0
          · rw [h0] at a0
            cases b
            · by_cases h1 : e.second = 0
              · rw [h1] at a1
                by_cases h2 : e.third = 0
                · rw [h2] at a2
                  rw [four1_zero hv h0 h1 h2] at hS2
                  have HS2 : Hid _ := hS2
                  clear hS2
                  have he2 : e = ⟨0, 0, 0, false⟩ := by cases e; simp_all
                  rw [he2] at HS2
                  have hblk : (wr.alloc (.cells #[.int .i64 0, .int .i64 0, .int .i64 0, .bool false] 28)).heap[wr.heap.size]? = some (.cells #[.int .i64 0, .int .i64 0, .int .i64 0, .bool false] 28) := heap_alloc_new wr _
                  have HBLK : Hid _ := hblk
                  clear hblk
                  go_wp2_with (at_builtin; refine wpList_append_own _ rfl _ _ 25 rfl w.heap.size 3 i0 (.int .i64 0) 1 8 Tryd.underlying25 hi0 hz0 hs0 hy0 rfl (by decide) _ _ _ rfl ((hI.alloc _).alloc _) ⟨wr.heap.size + 1, 0, none⟩ 1 1 [.int .i64 0] rfl rfl (cells1_at _ _ _ _ (by simp)) (fun u hu => by simp at hu; subst hu; rfl) (by unfold maxLen; omega) (by omega) (by simp; omega) ?_)
                  intro v6' w2 ho2 hg2 _
                  have hI2 : Ints w2 w.heap.size v6' (fs ++ [0]) := Ints.snoc ho2
                  have hE2 : Elems w2 w.heap.size u7 xs := World.ownsRow.kept ((hE.alloc _).alloc _) hg2 (own_type hE hI (by decide))
                  have hlow := fun j hj => (World.ownsRow.lt hI j hj).2
                  have hb2 : w2.heap[wr.heap.size]? = some (.cells #[.int .i64 0, .int .i64 0, .int .i64 0, .bool false] 28) := by
                    rw [hg2.block wr.heap.size (by simp; omega) (fun c => by have := hlow wr.heap.size c.symm; omega), Below.heap_alloc _ _ _ (by simp)]; exact HBLK.out
                  have hbw2 : Below w.heap.size w w2 := Below.grown ((hbw.alloc hbw.size _).alloc (hbw.alloc hbw.size _).size _) hg2 ((hbw.alloc hbw.size _).alloc (hbw.alloc hbw.size _).size _).size (fun j hj => (World.ownsRow.lt hI j hj).1)
                  have d0 := cell_of_row _ _ 0 _ _ _ hb2
                  have d1 := cell_of_row _ _ 1 _ _ _ hb2
                  have d2 := cell_of_row _ _ 2 _ _ _ hb2
                  have d3 := cell_of_row _ _ 3 _ _ _ hb2
                  have hsz2 := hbw2.size
                  have HI2 : Hid (Ints _ _ _ _) := hI2
                  have HB2 : Hid (Below _ _ _) := hbw2
                  clear ho2 hg2 hb2 HBLK hlow hI hE hI2 hbw2 a0 a1 a2 a3
                  unfold Elems at hE2
                  go_wp2_with (at_builtin; refine wpList_append_own _ rfl _ _ 40 rfl w.heap.size 28 i1 _ 4 32 Tryd.underlying40 hi1 hz1 hs1 hy1 rfl (by decide) _ _ _ rfl (hE2.alloc _) ⟨w2.heap.size, 0, none⟩ 1 1 (elC (⟨0, 0, 0, false⟩ : El)) rfl rfl (cells4_at _ _ (⟨0, 0, 0, false⟩ : El) _ (by simp)) ?hone (by unfold maxLen; omega) (by omega) (by simp; omega) ?_)
                  case hone =>
                    intro u hu
                    simp [elC] at hu
                    rcases hu with rfl | rfl | rfl | rfl <;> rfl
                  intro v7' w3 ho3 hg3 _
                  have hE3 : Elems w3 w.heap.size v7' (xs ++ [(⟨0, 0, 0, false⟩ : El)]) := Elems.snoc ho3
                  have hI3 : Ints w3 w.heap.size v6' (fs ++ [0]) := World.ownsRow.kept (World.ownsRow.alloc HI2.out _) hg3 (own_type HI2.out hE2 (by decide))
                  have hbw3 : Below w.heap.size w w3 := Below.grown (HB2.out.alloc HB2.out.size _) hg3 (HB2.out.alloc HB2.out.size _).size (fun j hj => (World.ownsRow.lt hE2 j hj).1)
                  have HE3 : Hid (Elems _ _ _ _) := hE3
                  have HI3 : Hid (Ints _ _ _ _) := hI3
                  have HB3 : Hid (Below _ _ _) := hbw3
                  clear ho3 hg3 hE3 hI3 hbw3 HI2 HB2 d0 d1 d2 d3 hE2
                  go_wp2
                  exact ⟨⟨k + 1, _, _, false, hlt, by go_num, rfl, HS2.out, HI3.out, HE3.out, HB3.out⟩, by simp [intOf]; omega⟩
                · rw [four1_some hv h0 (fun c => h2 c.2)] at hS2
                  have HS2 : Hid _ := hS2
                  have h2' : (e.third == 0) = false := by simpa using h2
                  clear hS2
                  have he2 : e = ⟨0, 0, e.third, false⟩ := by cases e; simp_all
                  rw [he2] at HS2
                  clear he2
                  have hblk : (wr.alloc (.cells #[.int .i64 0, .int .i64 0, .int .i64 e.third, .bool false] 28)).heap[wr.heap.size]? = some (.cells #[.int .i64 0, .int .i64 0, .int .i64 e.third, .bool false] 28) := heap_alloc_new wr _
                  have HBLK : Hid _ := hblk
                  clear hblk
                  go_wp2_with (at_builtin; refine wpList_append_own _ rfl _ _ 25 rfl w.heap.size 3 i0 (.int .i64 0) 1 8 Tryd.underlying25 hi0 hz0 hs0 hy0 rfl (by decide) _ _ _ rfl ((hI.alloc _).alloc _) ⟨wr.heap.size + 1, 0, none⟩ 1 1 [.int .i64 65535] rfl rfl (cells1_at _ _ _ _ (by simp)) (fun u hu => by simp at hu; subst hu; rfl) (by unfold maxLen; omega) (by omega) (by simp; omega) ?_)
                  intro v6' w2 ho2 hg2 _
                  have hI2 : Ints w2 w.heap.size v6' (fs ++ [65535]) := Ints.snoc ho2
                  have hE2 : Elems w2 w.heap.size u7 xs := World.ownsRow.kept ((hE.alloc _).alloc _) hg2 (own_type hE hI (by decide))
                  have hlow := fun j hj => (World.ownsRow.lt hI j hj).2
                  have hb2 : w2.heap[wr.heap.size]? = some (.cells #[.int .i64 0, .int .i64 0, .int .i64 e.third, .bool false] 28) := by
                    rw [hg2.block wr.heap.size (by simp; omega) (fun c => by have := hlow wr.heap.size c.symm; omega), Below.heap_alloc _ _ _ (by simp)]; exact HBLK.out
                  have hbw2 : Below w.heap.size w w2 := Below.grown ((hbw.alloc hbw.size _).alloc (hbw.alloc hbw.size _).size _) hg2 ((hbw.alloc hbw.size _).alloc (hbw.alloc hbw.size _).size _).size (fun j hj => (World.ownsRow.lt hI j hj).1)
                  have d0 := cell_of_row _ _ 0 _ _ _ hb2
                  have d1 := cell_of_row _ _ 1 _ _ _ hb2
                  have d2 := cell_of_row _ _ 2 _ _ _ hb2
                  have d3 := cell_of_row _ _ 3 _ _ _ hb2
                  have hsz2 := hbw2.size
                  have HI2 : Hid (Ints _ _ _ _) := hI2
                  have HB2 : Hid (Below _ _ _) := hbw2
                  clear ho2 hg2 hb2 HBLK hlow hI hE hI2 hbw2 a0 a1 a2 a3
                  unfold Elems at hE2
                  go_wp2_with (at_builtin; refine wpList_append_own _ rfl _ _ 40 rfl w.heap.size 28 i1 _ 4 32 Tryd.underlying40 hi1 hz1 hs1 hy1 rfl (by decide) _ _ _ rfl (hE2.alloc _) ⟨w2.heap.size, 0, none⟩ 1 1 (elC (⟨0, 0, e.third, false⟩ : El)) rfl rfl (cells4_at _ _ (⟨0, 0, e.third, false⟩ : El) _ (by simp)) ?hone (by unfold maxLen; omega) (by omega) (by simp; omega) ?_)
                  case hone =>
                    intro u hu
                    simp [elC] at hu
                    rcases hu with rfl | rfl | rfl | rfl <;> rfl
                  intro v7' w3 ho3 hg3 _
                  have hE3 : Elems w3 w.heap.size v7' (xs ++ [(⟨0, 0, e.third, false⟩ : El)]) := Elems.snoc ho3
                  have hI3 : Ints w3 w.heap.size v6' (fs ++ [65535]) := World.ownsRow.kept (World.ownsRow.alloc HI2.out _) hg3 (own_type HI2.out hE2 (by decide))
                  have hbw3 : Below w.heap.size w w3 := Below.grown (HB2.out.alloc HB2.out.size _) hg3 (HB2.out.alloc HB2.out.size _).size (fun j hj => (World.ownsRow.lt hE2 j hj).1)
                  have HE3 : Hid (Elems _ _ _ _) := hE3
                  have HI3 : Hid (Ints _ _ _ _) := hI3
                  have HB3 : Hid (Below _ _ _) := hbw3
                  clear ho3 hg3 hE3 hI3 hbw3 HI2 HB2 d0 d1 d2 d3 hE2
                  go_wp2
                  exact ⟨⟨k + 1, _, _, false, hlt, by go_num, rfl, HS2.out, HI3.out, HE3.out, HB3.out⟩, by simp [intOf]; omega⟩
              · rw [four1_some hv h0 (fun c => h1 c.1)] at hS2
                have HS2 : Hid _ := hS2
                have h1' : (e.second == 0) = false := by simpa using h1
                clear hS2
                have he2 : e = ⟨0, e.second, e.third, false⟩ := by cases e; simp_all
                rw [he2] at HS2
                clear he2
                have hblk : (wr.alloc (.cells #[.int .i64 0, .int .i64 e.second, .int .i64 e.third, .bool false] 28)).heap[wr.heap.size]? = some (.cells #[.int .i64 0, .int .i64 e.second, .int .i64 e.third, .bool false] 28) := heap_alloc_new wr _
                have HBLK : Hid _ := hblk
                clear hblk
                go_wp2_with (at_builtin; refine wpList_append_own _ rfl _ _ 25 rfl w.heap.size 3 i0 (.int .i64 0) 1 8 Tryd.underlying25 hi0 hz0 hs0 hy0 rfl (by decide) _ _ _ rfl ((hI.alloc _).alloc _) ⟨wr.heap.size + 1, 0, none⟩ 1 1 [.int .i64 65535] rfl rfl (cells1_at _ _ _ _ (by simp)) (fun u hu => by simp at hu; subst hu; rfl) (by unfold maxLen; omega) (by omega) (by simp; omega) ?_)
                intro v6' w2 ho2 hg2 _
                have hI2 : Ints w2 w.heap.size v6' (fs ++ [65535]) := Ints.snoc ho2
                have hE2 : Elems w2 w.heap.size u7 xs := World.ownsRow.kept ((hE.alloc _).alloc _) hg2 (own_type hE hI (by decide))
                have hlow := fun j hj => (World.ownsRow.lt hI j hj).2
                have hb2 : w2.heap[wr.heap.size]? = some (.cells #[.int .i64 0, .int .i64 e.second, .int .i64 e.third, .bool false] 28) := by
                  rw [hg2.block wr.heap.size (by simp; omega) (fun c => by have := hlow wr.heap.size c.symm; omega), Below.heap_alloc _ _ _ (by simp)]; exact HBLK.out
                have hbw2 : Below w.heap.size w w2 := Below.grown ((hbw.alloc hbw.size _).alloc (hbw.alloc hbw.size _).size _) hg2 ((hbw.alloc hbw.size _).alloc (hbw.alloc hbw.size _).size _).size (fun j hj => (World.ownsRow.lt hI j hj).1)
                have d0 := cell_of_row _ _ 0 _ _ _ hb2
                have d1 := cell_of_row _ _ 1 _ _ _ hb2
                have d2 := cell_of_row _ _ 2 _ _ _ hb2
                have d3 := cell_of_row _ _ 3 _ _ _ hb2
                have hsz2 := hbw2.size
                have HI2 : Hid (Ints _ _ _ _) := hI2
                have HB2 : Hid (Below _ _ _) := hbw2
                clear ho2 hg2 hb2 HBLK hlow hI hE hI2 hbw2 a0 a1 a2 a3
                unfold Elems at hE2
                go_wp2_with (at_builtin; refine wpList_append_own _ rfl _ _ 40 rfl w.heap.size 28 i1 _ 4 32 Tryd.underlying40 hi1 hz1 hs1 hy1 rfl (by decide) _ _ _ rfl (hE2.alloc _) ⟨w2.heap.size, 0, none⟩ 1 1 (elC (⟨0, e.second, e.third, false⟩ : El)) rfl rfl (cells4_at _ _ (⟨0, e.second, e.third, false⟩ : El) _ (by simp)) ?hone (by unfold maxLen; omega) (by omega) (by simp; omega) ?_)
                case hone =>
                  intro u hu
                  simp [elC] at hu
                  rcases hu with rfl | rfl | rfl | rfl <;> rfl
                intro v7' w3 ho3 hg3 _
                have hE3 : Elems w3 w.heap.size v7' (xs ++ [(⟨0, e.second, e.third, false⟩ : El)]) := Elems.snoc ho3
                have hI3 : Ints w3 w.heap.size v6' (fs ++ [65535]) := World.ownsRow.kept (World.ownsRow.alloc HI2.out _) hg3 (own_type HI2.out hE2 (by decide))
                have hbw3 : Below w.heap.size w w3 := Below.grown (HB2.out.alloc HB2.out.size _) hg3 (HB2.out.alloc HB2.out.size _).size (fun j hj => (World.ownsRow.lt hE2 j hj).1)
                have HE3 : Hid (Elems _ _ _ _) := hE3
                have HI3 : Hid (Ints _ _ _ _) := hI3
                have HB3 : Hid (Below _ _ _) := hbw3
                clear ho3 hg3 hE3 hI3 hbw3 HI2 HB2 d0 d1 d2 d3 hE2
                go_wp2
                exact ⟨⟨k + 1, _, _, false, hlt, by go_num, rfl, HS2.out, HI3.out, HE3.out, HB3.out⟩, by simp [intOf]; omega⟩
            · rw [four1_gone hv h0] at hS2
              have HS2 : Hid _ := hS2
              clear hS2
              have hblk : (wr.alloc (.cells #[.int .i64 0, .int .i64 0, .int .i64 0, .bool false] 28)).heap[wr.heap.size]? = some (.cells #[.int .i64 0, .int .i64 0, .int .i64 0, .bool false] 28) := heap_alloc_new wr _
              have HBLK : Hid _ := hblk
              clear hblk
              go_wp2_with (at_builtin; refine wpList_append_own _ rfl _ _ 25 rfl w.heap.size 3 i0 (.int .i64 0) 1 8 Tryd.underlying25 hi0 hz0 hs0 hy0 rfl (by decide) _ _ _ rfl ((hI.alloc _).alloc _) ⟨wr.heap.size + 1, 0, none⟩ 1 1 [.int .i64 0] rfl rfl (cells1_at _ _ _ _ (by simp)) (fun u hu => by simp at hu; subst hu; rfl) (by unfold maxLen; omega) (by omega) (by simp; omega) ?_)
              intro v6' w2 ho2 hg2 _
              have hI2 : Ints w2 w.heap.size v6' (fs ++ [0]) := Ints.snoc ho2
              have hE2 : Elems w2 w.heap.size u7 xs := World.ownsRow.kept ((hE.alloc _).alloc _) hg2 (own_type hE hI (by decide))
              have hlow := fun j hj => (World.ownsRow.lt hI j hj).2
              have hb2 : w2.heap[wr.heap.size]? = some (.cells #[.int .i64 0, .int .i64 0, .int .i64 0, .bool false] 28) := by
                rw [hg2.block wr.heap.size (by simp; omega) (fun c => by have := hlow wr.heap.size c.symm; omega), Below.heap_alloc _ _ _ (by simp)]; exact HBLK.out
              have hbw2 : Below w.heap.size w w2 := Below.grown ((hbw.alloc hbw.size _).alloc (hbw.alloc hbw.size _).size _) hg2 ((hbw.alloc hbw.size _).alloc (hbw.alloc hbw.size _).size _).size (fun j hj => (World.ownsRow.lt hI j hj).1)
              have d0 := cell_of_row _ _ 0 _ _ _ hb2
              have d1 := cell_of_row _ _ 1 _ _ _ hb2
              have d2 := cell_of_row _ _ 2 _ _ _ hb2
              have d3 := cell_of_row _ _ 3 _ _ _ hb2
              have hsz2 := hbw2.size
              have HI2 : Hid (Ints _ _ _ _) := hI2
              have HB2 : Hid (Below _ _ _) := hbw2
              clear ho2 hg2 hb2 HBLK hlow hI hE hI2 hbw2 a0 a1 a2 a3
              unfold Elems at hE2
              go_wp2_with (at_builtin; refine wpList_append_own _ rfl _ _ 40 rfl w.heap.size 28 i1 _ 4 32 Tryd.underlying40 hi1 hz1 hs1 hy1 rfl (by decide) _ _ _ rfl (hE2.alloc _) ⟨w2.heap.size, 0, none⟩ 1 1 (elC elZ) rfl rfl (cells4_at _ _ elZ _ (by simp)) ?hone (by unfold maxLen; omega) (by omega) (by simp; omega) ?_)
              case hone =>
                intro u hu
                simp [elC] at hu
                rcases hu with rfl | rfl | rfl | rfl <;> rfl
              intro v7' w3 ho3 hg3 _
              have hE3 : Elems w3 w.heap.size v7' (xs ++ [elZ]) := Elems.snoc ho3
              have hI3 : Ints w3 w.heap.size v6' (fs ++ [0]) := World.ownsRow.kept (World.ownsRow.alloc HI2.out _) hg3 (own_type HI2.out hE2 (by decide))
              have hbw3 : Below w.heap.size w w3 := Below.grown (HB2.out.alloc HB2.out.size _) hg3 (HB2.out.alloc HB2.out.size _).size (fun j hj => (World.ownsRow.lt hE2 j hj).1)
              have HE3 : Hid (Elems _ _ _ _) := hE3
              have HI3 : Hid (Ints _ _ _ _) := hI3
              have HB3 : Hid (Below _ _ _) := hbw3
              clear ho3 hg3 hE3 hI3 hbw3 HI2 HB2 d0 d1 d2 d3 hE2
              go_wp2
              exact ⟨⟨k + 1, _, _, true, hlt, by go_num, rfl, HS2.out, HI3.out, HE3.out, HB3.out⟩, by simp [intOf]; omega⟩
          · rw [four1_first hv h0] at hS2
            have HS2 : Hid _ := hS2
            have h0' : (e.first == 0) = false := by simpa using h0
            clear hS2
            have he2 : e = ⟨e.first, e.second, e.third, false⟩ := by cases e; simp_all
            rw [he2] at HS2
            clear he2
            have hblk : (wr.alloc (.cells #[.int .i64 e.first, .int .i64 e.second, .int .i64 e.third, .bool false] 28)).heap[wr.heap.size]? = some (.cells #[.int .i64 e.first, .int .i64 e.second, .int .i64 e.third, .bool false] 28) := heap_alloc_new wr _
            have HBLK : Hid _ := hblk
            clear hblk
            go_wp2_with (at_builtin; refine wpList_append_own _ rfl _ _ 25 rfl w.heap.size 3 i0 (.int .i64 0) 1 8 Tryd.underlying25 hi0 hz0 hs0 hy0 rfl (by decide) _ _ _ rfl ((hI.alloc _).alloc _) ⟨wr.heap.size + 1, 0, none⟩ 1 1 [.int .i64 65535] rfl rfl (cells1_at _ _ _ _ (by simp)) (fun u hu => by simp at hu; subst hu; rfl) (by unfold maxLen; omega) (by omega) (by simp; omega) ?_)
            intro v6' w2 ho2 hg2 _
            have hI2 : Ints w2 w.heap.size v6' (fs ++ [65535]) := Ints.snoc ho2
            have hE2 : Elems w2 w.heap.size u7 xs := World.ownsRow.kept ((hE.alloc _).alloc _) hg2 (own_type hE hI (by decide))
            have hlow := fun j hj => (World.ownsRow.lt hI j hj).2
            have hb2 : w2.heap[wr.heap.size]? = some (.cells #[.int .i64 e.first, .int .i64 e.second, .int .i64 e.third, .bool false] 28) := by
              rw [hg2.block wr.heap.size (by simp; omega) (fun c => by have := hlow wr.heap.size c.symm; omega), Below.heap_alloc _ _ _ (by simp)]; exact HBLK.out
            have hbw2 : Below w.heap.size w w2 := Below.grown ((hbw.alloc hbw.size _).alloc (hbw.alloc hbw.size _).size _) hg2 ((hbw.alloc hbw.size _).alloc (hbw.alloc hbw.size _).size _).size (fun j hj => (World.ownsRow.lt hI j hj).1)
            have d0 := cell_of_row _ _ 0 _ _ _ hb2
            have d1 := cell_of_row _ _ 1 _ _ _ hb2
            have d2 := cell_of_row _ _ 2 _ _ _ hb2
            have d3 := cell_of_row _ _ 3 _ _ _ hb2
            have hsz2 := hbw2.size
            have HI2 : Hid (Ints _ _ _ _) := hI2
            have HB2 : Hid (Below _ _ _) := hbw2
            clear ho2 hg2 hb2 HBLK hlow hI hE hI2 hbw2 a0 a1 a2 a3
            unfold Elems at hE2
            go_wp2_with (at_builtin; refine wpList_append_own _ rfl _ _ 40 rfl w.heap.size 28 i1 _ 4 32 Tryd.underlying40 hi1 hz1 hs1 hy1 rfl (by decide) _ _ _ rfl (hE2.alloc _) ⟨w2.heap.size, 0, none⟩ 1 1 (elC (⟨e.first, e.second, e.third, false⟩ : El)) rfl rfl (cells4_at _ _ (⟨e.first, e.second, e.third, false⟩ : El) _ (by simp)) ?hone (by unfold maxLen; omega) (by omega) (by simp; omega) ?_)
            case hone =>
              intro u hu
              simp [elC] at hu
              rcases hu with rfl | rfl | rfl | rfl <;> rfl
            intro v7' w3 ho3 hg3 _
            have hE3 : Elems w3 w.heap.size v7' (xs ++ [(⟨e.first, e.second, e.third, false⟩ : El)]) := Elems.snoc ho3
            have hI3 : Ints w3 w.heap.size v6' (fs ++ [65535]) := World.ownsRow.kept (World.ownsRow.alloc HI2.out _) hg3 (own_type HI2.out hE2 (by decide))
            have hbw3 : Below w.heap.size w w3 := Below.grown (HB2.out.alloc HB2.out.size _) hg3 (HB2.out.alloc HB2.out.size _).size (fun j hj => (World.ownsRow.lt hE2 j hj).1)
            have HE3 : Hid (Elems _ _ _ _) := hE3
            have HI3 : Hid (Ints _ _ _ _) := hI3
            have HB3 : Hid (Below _ _ _) := hbw3
            clear ho3 hg3 hE3 hI3 hbw3 HI2 HB2 d0 d1 d2 d3 hE2
            go_wp2
            exact ⟨⟨k + 1, _, _, false, hlt, by go_num, rfl, HS2.out, HI3.out, HE3.out, HB3.out⟩, by simp [intOf]; omega⟩
        · rw [hv] at a3
          rw [four1_var hv] at hS2
          have HS2 : Hid _ := hS2
          clear hS2
          have hblk : (wr.alloc (.cells #[.int .i64 0, .int .i64 0, .int .i64 0, .bool false] 28)).heap[wr.heap.size]? = some (.cells #[.int .i64 0, .int .i64 0, .int .i64 0, .bool false] 28) := heap_alloc_new wr _
          have HBLK : Hid _ := hblk
          clear hblk
          go_wp2_with (at_builtin; refine wpList_append_own _ rfl _ _ 25 rfl w.heap.size 3 i0 (.int .i64 0) 1 8 Tryd.underlying25 hi0 hz0 hs0 hy0 rfl (by decide) _ _ _ rfl ((hI.alloc _).alloc _) ⟨wr.heap.size + 1, 0, none⟩ 1 1 [.int .i64 e.first] rfl rfl (cells1_at _ _ _ _ (by simp)) (fun u hu => by simp at hu; subst hu; rfl) (by unfold maxLen; omega) (by omega) (by simp; omega) ?_)
          intro v6' w2 ho2 hg2 _
          have hI2 : Ints w2 w.heap.size v6' (fs ++ [e.first]) := Ints.snoc ho2
          have hE2 : Elems w2 w.heap.size u7 xs := World.ownsRow.kept ((hE.alloc _).alloc _) hg2 (own_type hE hI (by decide))
          have hlow := fun j hj => (World.ownsRow.lt hI j hj).2
          have hb2 : w2.heap[wr.heap.size]? = some (.cells #[.int .i64 0, .int .i64 0, .int .i64 0, .bool false] 28) := by
            rw [hg2.block wr.heap.size (by simp; omega) (fun c => by have := hlow wr.heap.size c.symm; omega), Below.heap_alloc _ _ _ (by simp)]; exact HBLK.out
          have hbw2 : Below w.heap.size w w2 := Below.grown ((hbw.alloc hbw.size _).alloc (hbw.alloc hbw.size _).size _) hg2 ((hbw.alloc hbw.size _).alloc (hbw.alloc hbw.size _).size _).size (fun j hj => (World.ownsRow.lt hI j hj).1)
          have d0 := cell_of_row _ _ 0 _ _ _ hb2
          have d1 := cell_of_row _ _ 1 _ _ _ hb2
          have d2 := cell_of_row _ _ 2 _ _ _ hb2
          have d3 := cell_of_row _ _ 3 _ _ _ hb2
          have hsz2 := hbw2.size
          have HI2 : Hid (Ints _ _ _ _) := hI2
          have HB2 : Hid (Below _ _ _) := hbw2
          clear ho2 hg2 hb2 HBLK hlow hI hE hI2 hbw2 a0 a1 a2 a3
          unfold Elems at hE2
          go_wp2_with (at_builtin; refine wpList_append_own _ rfl _ _ 40 rfl w.heap.size 28 i1 _ 4 32 Tryd.underlying40 hi1 hz1 hs1 hy1 rfl (by decide) _ _ _ rfl (hE2.alloc _) ⟨w2.heap.size, 0, none⟩ 1 1 (elC elZ) rfl rfl (cells4_at _ _ elZ _ (by simp)) ?hone (by unfold maxLen; omega) (by omega) (by simp; omega) ?_)
          case hone =>
            intro u hu
            simp [elC] at hu
            rcases hu with rfl | rfl | rfl | rfl <;> rfl
          intro v7' w3 ho3 hg3 _
          have hE3 : Elems w3 w.heap.size v7' (xs ++ [elZ]) := Elems.snoc ho3
          have hI3 : Ints w3 w.heap.size v6' (fs ++ [e.first]) := World.ownsRow.kept (World.ownsRow.alloc HI2.out _) hg3 (own_type HI2.out hE2 (by decide))
          have hbw3 : Below w.heap.size w w3 := Below.grown (HB2.out.alloc HB2.out.size _) hg3 (HB2.out.alloc HB2.out.size _).size (fun j hj => (World.ownsRow.lt hE2 j hj).1)
          have HE3 : Hid (Elems _ _ _ _) := hE3
          have HI3 : Hid (Ints _ _ _ _) := hI3
          have HB3 : Hid (Below _ _ _) := hbw3
          clear ho3 hg3 hE3 hI3 hbw3 HI2 HB2 d0 d1 d2 d3 hE2
          go_wp2
          exact ⟨⟨k + 1, _, _, true, hlt, by go_num, rfl, HS2.out, HI3.out, HE3.out, HB3.out⟩, by simp [intOf]; omega⟩
    · have hk3 : k = es.length := by omega
      subst hk3
      have HF1 : Hid (fourths sh es = fs ∧ counted sh es = xs) := by
        show _ ∧ _
        unfold fourths counted
        rw [HF.out]
        exact ⟨rfl, rfl⟩
      clear HF hL
      go_wp2
      go_ret2
      rw [HF1.out.1, HF1.out.2]
      exact ⟨_, _, rfl, hI, hE, hbw⟩

set_option maxRecDepth 100000 in
set_option maxHeartbeats 1000000 in
theorem fourth_none (w : World) (a : Option Addr) (c : Nat) (sh : Bool) :
    Calls Tryd.prog 72 #[.slice a 0 c, .bool sh] w fun e w' => ∃ v v', e = .returned (.tuple #[v, v']) ∧ Ints w' w.heap.size v [] ∧ Elems w' w.heap.size v' [] ∧ Below w.heap.size w w' := by
  go_enter Tryd.func72, Tryd.ntmps72
  go_wp2
  go_loop [6, 7, 8, 14] (fun v6 v7 bv iv => v6 = .slice none 0 0 ∧ v7 = .slice none 0 0 ∧ bv = .bool false ∧ iv = .int .i64 0) (fun _ _ _ _ => 0)
  case atStart => exact ⟨rfl, rfl, rfl, rfl⟩
  case round =>
    obtain ⟨rfl, rfl, rfl, rfl⟩ := hrel
    go_wp2
    go_ret2
    exact ⟨_, _, rfl, World.ownsRow_nil _ _ _ _, World.ownsRow_nil _ _ _ _, Below.refl _ _⟩

theorem fourth_any {w : World} {B : Nat} {v : Value} {es : List El} (sh : Bool) (hz : es.length ≤ 1048576) (hL : Elems w B v es) :
    Calls Tryd.prog 72 #[v, .bool sh] w fun e w' => ∃ v v', e = .returned (.tuple #[v, v']) ∧ Ints w' w.heap.size v (fourths sh es) ∧ Elems w' w.heap.size v' (counted sh es) ∧ Below w.heap.size w w' := by
  rcases hL.form with ⟨rfl, rfl⟩ | ⟨g, cap, rfl, _, _⟩
  · exact fourth_none w _ _ sh
  · exact fourth_row w B g cap es sh hz hL
end Go.Proofs.YtcmanfcgoapjjafDoor

namespace Go.Proofs.YtcmanfcgoapjjafDoor
open Go.RowKit

theorem ents_slice {w : World} {B : Nat} {v : Value} {es : List Ent} (h : Ents w B v es) : ∃ a c, v = .slice a es.length c := by
  rcases h.form with ⟨rfl, rfl⟩ | ⟨_, _, rfl, _, _, _, _⟩
  · exact ⟨_, _, rfl⟩
  · exact ⟨_, _, rfl⟩

/-- The rules' block, of a call's own. -/
def BoxS (u : World) (b : Nat) (v : Value) (sh : Bool) (lv : Int) : Prop := u.heap[b]? = some (.cells #[v, .bool sh, .int .i64 lv] 33)
theorem BoxS.below {B b : Nat} {u u' : World} {v : Value} {sh : Bool} {lv : Int} (h : BoxS u b v sh lv) (hb : Below B u u') (hlt : b < B) : BoxS u' b v sh lv := (hb.block b hlt).trans h
theorem BoxS.cells {b : Nat} {u : World} {v : Value} {sh : Bool} {lv : Int} (h : BoxS u b v sh lv) : u.cell? ⟨b, 0, none⟩ = some v ∧ u.cell? ⟨b, 1, none⟩ = some (.bool sh) ∧ u.cell? ⟨b, 2, none⟩ = some (.int .i64 lv) :=
  ⟨cell_of_row _ _ 0 _ _ _ h, cell_of_row _ _ 1 _ _ _ h, cell_of_row _ _ 2 _ _ _ h⟩

/-- The rules' block and what has grown. -/
def BoxW (w0 : World) (b : Nat) (v : Value) (sh : Bool) (lv : Int) (u : World) : Prop := u.cell? ⟨b, 0, none⟩ = some v ∧ u.cell? ⟨b, 1, none⟩ = some (.bool sh) ∧ u.cell? ⟨b, 2, none⟩ = some (.int .i64 lv) ∧ b < w0.heap.size ∧ Below w0.heap.size w0 u

theorem BoxW.keep {w0 u u' : World} {b : Nat} {v : Value} {sh : Bool} {lv : Int} (hb : Below u.heap.size u u')
    (h : u.cell? ⟨b, 0, none⟩ = some v ∧ u.cell? ⟨b, 1, none⟩ = some (.bool sh) ∧ u.cell? ⟨b, 2, none⟩ = some (.int .i64 lv) ∧ b < w0.heap.size ∧ Below w0.heap.size w0 u) :
    u'.cell? ⟨b, 0, none⟩ = some v ∧ u'.cell? ⟨b, 1, none⟩ = some (.bool sh) ∧ u'.cell? ⟨b, 2, none⟩ = some (.int .i64 lv) ∧ b < w0.heap.size ∧ Below w0.heap.size w0 u' := by
  obtain ⟨h0, h1, h2, h3, h4⟩ := h
  have hlt : b < u.heap.size := Nat.lt_of_lt_of_le h3 h4.size
  exact ⟨(hb.cell hlt).trans h0, (hb.cell hlt).trans h1, (hb.cell hlt).trans h2, h3, h4.trans (hb.mono h4.size)⟩

theorem els_sliceS {w : World} {B : Nat} {v : Value} {es : List El} (h : Elems w B v es) :
    ∃ a c, v = .slice a es.length c ∧ ∀ k e, es[k]? = some e → ∃ g, a = some ⟨g, 0, none⟩ ∧ g < w.heap.size ∧ w.cell? ⟨g, k * 4, none⟩ = some (.int .i64 e.first) ∧ w.cell? ⟨g, k * 4 + 1, none⟩ = some (.int .i64 e.second) ∧ w.cell? ⟨g, k * 4 + 2, none⟩ = some (.int .i64 e.third) ∧ w.cell? ⟨g, k * 4 + 3, none⟩ = some (.bool e.varies) := by
  rcases h.form with ⟨rfl, rfl⟩ | ⟨g, cap, rfl, _, _⟩
  · exact ⟨_, _, rfl, fun k e he => by simp at he⟩
  · exact ⟨_, _, rfl, fun k e he => ⟨g, rfl, (World.ownsRow.lt h g rfl).2, h.cells k e he⟩⟩

theorem ints_sliceS {w : World} {B : Nat} {v : Value} {l : List Int} (h : Ints w B v l) :
    ∃ a c, v = .slice a l.length c ∧ ∀ k, k < l.length → ∃ g, a = some ⟨g, 0, none⟩ ∧ g < w.heap.size ∧ w.cell? ⟨g, k, none⟩ = some (.int .i64 (at0 l k)) := by
  rcases h.form with ⟨rfl, rfl⟩ | ⟨g, cap, rfl, _, _⟩
  · exact ⟨_, _, rfl, fun k hk => by simp at hk⟩
  · exact ⟨_, _, rfl, fun k hk => ⟨g, rfl, (World.ownsRow.lt h g rfl).2, h.cell k hk⟩⟩

theorem elAt_at {xs : List El} {k : Nat} {e : El} (h : xs[k]? = some e) : elAt xs k = e := by unfold elAt; rw [h]; rfl

end Go.Proofs.YtcmanfcgoapjjafDoor

namespace Go.Proofs.YtcmanfcgoapjjafDoor
open Go.RowKit

set_option maxRecDepth 100000 in
set_option maxHeartbeats 4000000 in
theorem specElemsIn_any {w : World} {B : Nat} {ve : Value} {es : List Ent} {sh : Bool} {lv : Int} (x : ByteArray) (hx : x.size ≤ 1048576) (hE : Ents w B ve es) (hr : ∀ e ∈ es, e.runes.length ≤ 1048576) :
    Calls Tryd.prog 16 #[.agg #[ve, .bool sh, .int .i64 lv], .string x] w fun e w' => ∃ v', e = .returned (.tuple #[v', .bool (okE es lv x)]) ∧ Elems w' w.heap.size v' (elsA es lv x) ∧ Below w.heap.size w w' := by
  obtain ⟨va, vc, rfl⟩ := ents_slice hE
  have hbx : Below w.heap.size w (w.alloc (.cells #[.slice va es.length vc, .bool sh, .int .i64 lv] 33)) := (Below.refl _ _).alloc (Nat.le_refl _) _
  have hbox : BoxS (w.alloc (.cells #[.slice va es.length vc, .bool sh, .int .i64 lv] 33)) w.heap.size (.slice va es.length vc) sh lv := heap_alloc_new w _
  have hlb : w.heap.size < (w.alloc (.cells #[.slice va es.length vc, .bool sh, .int .i64 lv] 33)).heap.size := by simp
  have AT := runes4_any x (w.alloc (.cells #[.slice va es.length vc, .bool sh, .int .i64 lv] 33)) (by omega)
  have HE : Hid (Ents _ _ _ _) := hE.below hbx
  have GR := fun (u : World) (hu : Below (w.alloc (.cells #[.slice va es.length vc, .bool sh, .int .i64 lv] 33)).heap.size (w.alloc (.cells #[.slice va es.length vc, .bool sh, .int .i64 lv] 33)) u) => good3_any (sh := sh) (lv := lv) (HE.out.below hu) hr
  have hrg := rn4_rng x
  unfold elsA okE
  clear hE
  cases hok : ok4 x
  · rw [hok] at AT
    rw [Bool.false_and, if_neg (by simp)]
    clear hok GR
    go_enter Tryd.func16, Tryd.ntmps16
    go_wp2_with fail
    refine AT.mono ?_
    rintro e w1 ⟨v1, rfl, i1, b1⟩
    clear AT i1
    go_wp2
    go_ret2
    exact ⟨_, rfl, ⟨rfl, .inl ⟨rfl, rfl⟩⟩, hbx.trans (b1.mono hbx.size)⟩
  · obtain ⟨hs, hl⟩ := ok4_parts hok
    rw [hok] at AT
    rw [Bool.true_and]
    clear hok
    generalize rn4 x = rs at *
    cases hro : rulesOk es lv
    · rw [hro] at GR
      rw [if_neg (by simp)]
      clear hro
      go_enter Tryd.func16, Tryd.ntmps16
      go_wp2_with fail
      refine AT.mono ?_
      rintro e w1 ⟨v1, rfl, i1, b1⟩
      have G1 := GR _ b1
      obtain ⟨c0, c1, c2⟩ := (hbox.below b1 hlb).cells
      have hsz1 := b1.size
      clear AT GR hbox i1
      go_wp2_with fail
      refine G1.mono ?_
      rintro e w2 ⟨rfl, b2⟩
      clear G1
      have b3 := hbx.trans ((b1.trans (b2.mono b1.size)).mono hbx.size)
      go_wp2
      go_ret2
      exact ⟨_, rfl, ⟨rfl, .inl ⟨rfl, rfl⟩⟩, b3⟩
    · rw [hro] at GR
      rw [if_pos rfl]
      have hne : es.length ≤ 1048576 := by have := (rulesOk_parts hro).1; omega
      clear hro
      go_enter Tryd.func16, Tryd.ntmps16
      go_wp2_with fail
      refine AT.mono ?_
      rintro e w1 ⟨v1, rfl, i1, b1⟩
      have G1 := GR _ b1
      have hbox1 := hbox.below b1 hlb
      obtain ⟨c0, c1, c2⟩ := hbox1.cells
      have hsz1 := b1.size
      have I1 := i1 hs
      clear AT GR hbox i1
      go_wp2_with fail
      refine G1.mono ?_
      rintro e w2 ⟨rfl, b2⟩
      clear G1 c0 c1 c2
      have b12 := b1.trans (b2.mono b1.size)
      have b3 := hbx.trans (b12.mono hbx.size)
      have E2 := elems4S_any (sh := sh) (lv := lv) (HE.out.below b12) hne hr (I1.below b2) (by omega) hrg
      obtain ⟨c0, c1, c2⟩ := (hbox1.below b2 (by omega)).cells
      clear I1 hbox1
      go_wp2_with fail
      refine E2.mono ?_
      rintro e w3 ⟨v3, rfl, e3, b4⟩
      clear E2 c0 c1 c2
      go_wp2
      go_ret2
      exact ⟨_, rfl, els_lowS e3 b3.size, b3.trans (b4.mono b3.size)⟩
end Go.Proofs.YtcmanfcgoapjjafDoor

namespace Go.Proofs.YtcmanfcgoapjjafDoor
open Go.RowKit

set_option maxRecDepth 100000 in
set_option maxHeartbeats 1000000 in
theorem eqElem_same (w : World) (a b c : Int) (d : Bool) : Calls Tryd.prog 13 #[.agg #[.int .i64 a, .int .i64 b, .int .i64 c, .bool d], .agg #[.int .i64 a, .int .i64 b, .int .i64 c, .bool d]] w fun e w' => e = .returned (.bool true) ∧ Below w.heap.size w w' := by
  go_enter Tryd.func13, Tryd.ntmps13
  go_wp2
  go_ret
  exact ⟨rfl, ((Below.refl _ _).alloc (Nat.le_refl _) _).alloc (by simp) _⟩
end Go.Proofs.YtcmanfcgoapjjafDoor

namespace Go.Proofs.YtcmanfcgoapjjafDoor
open Go.RowKit

set_option maxRecDepth 100000 in
set_option maxHeartbeats 1000000 in
theorem eqE_none (w : World) (a b : Option Addr) (c d : Nat) : Calls Tryd.prog 18 #[.slice a 0 c, .slice b 0 d] w fun e w' => e = .returned (.bool true) ∧ Below w.heap.size w w' := by
  go_enter Tryd.func18, Tryd.ntmps18
  go_wp2
  go_loopw [5] (fun i wr => i = .int .i64 0 ∧ wr = w) (fun _ _ => 0)
  case atStart => exact ⟨rfl, rfl⟩
  case round =>
    obtain ⟨rfl, rfl⟩ := hrel
    go_wp2
    go_ret
    exact ⟨rfl, Below.refl _ _⟩

/-- What stands in every world of a round: the two elems' cells. -/
def E8 (w0 : World) (g g' : Nat) (w' : World) : Prop := g < w0.heap.size ∧ g' < w0.heap.size ∧ Below w0.heap.size w0 w'

theorem keep8 {w0 w1 w2 : World} {g g' k : Nat} {e : El} (hb : Below w1.heap.size w1 w2)
    (h : w1.cell? ⟨g, k * 4, none⟩ = some (.int .i64 e.first) ∧ w1.cell? ⟨g, k * 4 + 1, none⟩ = some (.int .i64 e.second) ∧ w1.cell? ⟨g, k * 4 + 2, none⟩ = some (.int .i64 e.third) ∧ w1.cell? ⟨g, k * 4 + 3, none⟩ = some (.bool e.varies) ∧
      w1.cell? ⟨g', k * 4, none⟩ = some (.int .i64 e.first) ∧ w1.cell? ⟨g', k * 4 + 1, none⟩ = some (.int .i64 e.second) ∧ w1.cell? ⟨g', k * 4 + 2, none⟩ = some (.int .i64 e.third) ∧ w1.cell? ⟨g', k * 4 + 3, none⟩ = some (.bool e.varies) ∧ E8 w0 g g' w1) :
    w2.cell? ⟨g, k * 4, none⟩ = some (.int .i64 e.first) ∧ w2.cell? ⟨g, k * 4 + 1, none⟩ = some (.int .i64 e.second) ∧ w2.cell? ⟨g, k * 4 + 2, none⟩ = some (.int .i64 e.third) ∧ w2.cell? ⟨g, k * 4 + 3, none⟩ = some (.bool e.varies) ∧
      w2.cell? ⟨g', k * 4, none⟩ = some (.int .i64 e.first) ∧ w2.cell? ⟨g', k * 4 + 1, none⟩ = some (.int .i64 e.second) ∧ w2.cell? ⟨g', k * 4 + 2, none⟩ = some (.int .i64 e.third) ∧ w2.cell? ⟨g', k * 4 + 3, none⟩ = some (.bool e.varies) ∧ E8 w0 g g' w2 := by
  obtain ⟨a0, a1, a2, a3, b0, b1, b2, b3, h1, h2, h3⟩ := h
  have q1 : g < w1.heap.size := Nat.lt_of_lt_of_le h1 h3.size
  have q2 : g' < w1.heap.size := Nat.lt_of_lt_of_le h2 h3.size
  exact ⟨by rw [hb.cell q1]; exact a0, by rw [hb.cell q1]; exact a1, by rw [hb.cell q1]; exact a2, by rw [hb.cell q1]; exact a3, by rw [hb.cell q2]; exact b0, by rw [hb.cell q2]; exact b1, by rw [hb.cell q2]; exact b2, by rw [hb.cell q2]; exact b3, h1, h2, h3.trans (hb.mono h3.size)⟩

def ERel8 (w : World) (n : Nat) (i : Value) (wr : World) : Prop := ∃ k : Nat, k ≤ n ∧ i = .int .i64 k ∧ Below w.heap.size w wr

set_option maxRecDepth 100000 in
set_option maxHeartbeats 2000000 in
theorem eqE_row (w : World) (B B' g g' cap cap' : Nat) (es : List El) (hz : es.length ≤ 1048576) (h1 : Elems w B (.slice (some ⟨g, 0, none⟩) es.length cap) es) (h2 : Elems w B' (.slice (some ⟨g', 0, none⟩) es.length cap') es) :
    Calls Tryd.prog 18 #[.slice (some ⟨g, 0, none⟩) es.length cap, .slice (some ⟨g', 0, none⟩) es.length cap'] w fun e w' => e = .returned (.bool true) ∧ Below w.heap.size w w' := by
  have hg := (World.ownsRow.lt h1 g rfl).2
  have hg' := (World.ownsRow.lt h2 g' rfl).2
  go_enter Tryd.func18, Tryd.ntmps18
  go_wp2
  go_loopw [5] (fun i wr => ERel8 w es.length i wr) (fun i _ => es.length - (intOf i).toNat)
  case atStart => exact ⟨0, Nat.zero_le _, rfl, Below.refl _ _⟩
  case round =>
    obtain ⟨k, hk, rfl, hb⟩ := hrel
    by_cases hlt : k < es.length
    · obtain ⟨e, he⟩ : ∃ e, es[k]? = some e := ⟨_, List.getElem?_eq_getElem hlt⟩
      obtain ⟨a0, a1, a2, a3⟩ := (h1.below hb).cells k e he
      obtain ⟨b0, b1, b2, b3⟩ := (h2.below hb).cells k e he
      have hk8 : (k : Int) < (es.length : Int) := by omega
      have hS : wr.cell? ⟨g, k * 4, none⟩ = some (.int .i64 e.first) ∧ wr.cell? ⟨g, k * 4 + 1, none⟩ = some (.int .i64 e.second) ∧ wr.cell? ⟨g, k * 4 + 2, none⟩ = some (.int .i64 e.third) ∧ wr.cell? ⟨g, k * 4 + 3, none⟩ = some (.bool e.varies) ∧
        wr.cell? ⟨g', k * 4, none⟩ = some (.int .i64 e.first) ∧ wr.cell? ⟨g', k * 4 + 1, none⟩ = some (.int .i64 e.second) ∧ wr.cell? ⟨g', k * 4 + 2, none⟩ = some (.int .i64 e.third) ∧ wr.cell? ⟨g', k * 4 + 3, none⟩ = some (.bool e.varies) ∧ E8 w g g' wr := ⟨a0, a1, a2, a3, b0, b1, b2, b3, hg, hg', hb⟩
      have hS2 := keep8 ((Below.refl wr.heap.size wr).drew) hS
      have EQ := fun u => eqElem_same u e.first e.second e.third e.varies
      clear he h1 h2 a0 a1 a2 a3 b0 b1 b2 b3
      go_wp2_with fail
      go_region_held (fun w' => w'.cell? ⟨g, k * 4, none⟩ = some (.int .i64 e.first) ∧ w'.cell? ⟨g, k * 4 + 1, none⟩ = some (.int .i64 e.second) ∧ w'.cell? ⟨g, k * 4 + 2, none⟩ = some (.int .i64 e.third) ∧ w'.cell? ⟨g, k * 4 + 3, none⟩ = some (.bool e.varies) ∧
        w'.cell? ⟨g', k * 4, none⟩ = some (.int .i64 e.first) ∧ w'.cell? ⟨g', k * 4 + 1, none⟩ = some (.int .i64 e.second) ∧ w'.cell? ⟨g', k * 4 + 2, none⟩ = some (.int .i64 e.third) ∧ w'.cell? ⟨g', k * 4 + 3, none⟩ = some (.bool e.varies) ∧ E8 w g g' w')
        (first | exact hS2 | exact keep8 (by assumption) (by assumption))
        (first | (go_at_call 13; refine (EQ _).mono ?_; rintro e w' ⟨rfl, hbw⟩))
      all_goals
        have hE := (show w'.cell? ⟨g, k * 4, none⟩ = _ ∧ _ ∧ _ ∧ _ ∧ _ ∧ _ ∧ _ ∧ _ ∧ E8 w g g' w' by assumption).2.2.2.2.2.2.2.2.2.2
        clear hS hS2 EQ
        go_wp2
        exact ⟨⟨k + 1, by omega, by go_num, hE⟩, by simp [intOf]; omega⟩
    · go_wp2
      go_ret
      exact ⟨rfl, hb⟩

theorem eqE_any {w : World} {B B' : Nat} {a b : Value} {es : List El} (hz : es.length ≤ 1048576) (ha : Elems w B a es) (hb : Elems w B' b es) :
    Calls Tryd.prog 18 #[a, b] w fun e w' => e = .returned (.bool true) ∧ Below w.heap.size w w' := by
  rcases ha.form with ⟨rfl, rfl⟩ | ⟨g, cap, rfl, h1, h2⟩
  · rcases hb.form with ⟨rfl, _⟩ | ⟨g', cap', rfl, _, _⟩
    · exact eqE_none w _ _ _ _
    · exact eqE_none w _ _ _ _
  · rcases hb.form with ⟨rfl, rfl⟩ | ⟨g', cap', rfl, _, _⟩
    · exact eqE_none w _ _ _ _
    · exact eqE_row w B B' g g' cap cap' es hz ha hb
end Go.Proofs.YtcmanfcgoapjjafDoor

namespace Go.Proofs.YtcmanfcgoapjjafDoor
open Go.RowKit

/-- What is written into an elem from the number k on. -/
def mkE (k : Int) : El := ⟨k, k + 1, k + 1 + 1, (k + 1 + 1 + 1) % 3 == 0⟩
def marksE (es : List El) (k : Int) : Nat → List El
  | 0 => es
  | i + 1 => (marksE es k i).set i (mkE (k + 4 * (i : Int)))

theorem marksE_len (es : List El) (k : Int) (i : Nat) : (marksE es k i).length = es.length := by
  induction i with
  | zero => rfl
  | succ i ih => simp [marksE, ih]

theorem marksE_at (es : List El) (k : Int) (i j : Nat) (hj : j < i) (hl : j < es.length) : (marksE es k i)[j]? = some (mkE (k + 4 * (j : Int))) := by
  induction i with
  | zero => omega
  | succ i ih =>
    by_cases e : j = i
    · subst e; simp [marksE, marksE_len, hl]
    · rw [marksE, List.getElem?_set_ne (by omega)]; exact ih (by omega)

def MERel (w : World) (B g cap : Nat) (es : List El) (k0 : Int) (kv i : Value) (wr : World) : Prop :=
  ∃ j : Nat, j ≤ es.length ∧ i = .int .i64 j ∧ kv = .int .i64 (k0 + 4 * (j : Int)) ∧ wr.ownsRow B 28 4 (.slice (some ⟨g, 0, none⟩) es.length cap) es.length (elAll (marksE es k0 j)) ∧ w.grownBy wr (some g)

theorem me_step {w wr : World} {B g cap j : Nat} {es : List El} {k0 : Int} (hj : j < es.length) (hown : wr.ownsRow B 28 4 (.slice (some ⟨g, 0, none⟩) es.length cap) es.length (elAll (marksE es k0 j))) (hg : w.grownBy wr (some g)) {k : Int} (hk : k = k0 + 4 * (j : Int)) {k' : Int} (hk' : k' = k0 + 4 * ((j + 1 : Nat) : Int)) :
    MERel w B g cap es k0 (.int .i64 k') (.int .i64 ((j : Int) + 1))
      ((((wr.setCell ⟨g, j * 4, none⟩ (.int .i64 k)).setCell ⟨g, j * 4 + 1, none⟩ (.int .i64 (k + 1))).setCell ⟨g, j * 4 + 2, none⟩ (.int .i64 (k + 1 + 1))).setCell ⟨g, j * 4 + 3, none⟩ (.bool ((k + 1 + 1 + 1) % 3 == 0))) := by
  subst hk
  subst hk'
  have h1 := hown.stored (j * 4) (.int .i64 (k0 + 4 * (j : Int)))
  have h2 := h1.1.stored (j * 4 + 1) (.int .i64 (k0 + 4 * (j : Int) + 1))
  have h3 := h2.1.stored (j * 4 + 2) (.int .i64 (k0 + 4 * (j : Int) + 1 + 1))
  have h4 := h3.1.stored (j * 4 + 3) (.bool ((k0 + 4 * (j : Int) + 1 + 1 + 1) % 3 == 0))
  refine ⟨j + 1, hj, by go_num, rfl, ?_, (((hg.trans h1.2).trans h2.2).trans h3.2).trans h4.2⟩
  rw [marksE, elAll_set _ _ _ (by rw [marksE_len]; exact hj)]
  exact h4.1

set_option maxRecDepth 100000 in
set_option maxHeartbeats 2000000 in
theorem markE_row (w : World) (B g cap : Nat) (es : List El) (k0 : Int) (hk0 : 0 ≤ k0) (hk1 : k0 ≤ 1073741824) (hz : es.length ≤ 1048576) (hI : Elems w B (.slice (some ⟨g, 0, none⟩) es.length cap) es) :
    Calls Tryd.prog 20 #[.slice (some ⟨g, 0, none⟩) es.length cap, .int .i64 k0] w fun e w' => e = .returned (.int .i64 (k0 + 4 * (es.length : Int))) ∧ w'.ownsRow B 28 4 (.slice (some ⟨g, 0, none⟩) es.length cap) es.length (elAll (marksE es k0 es.length)) ∧ w.grownBy w' (some g) := by
  go_enter Tryd.func20, Tryd.ntmps20
  go_wp2
  go_loopw [1, 5] (fun kv i wr => MERel w B g cap es k0 kv i wr) (fun _ i _ => es.length - (intOf i).toNat)
  case atStart => exact ⟨0, Nat.zero_le _, rfl, by simp, hI, World.grownBy.refl _ _⟩
  case round =>
    clear hI
    obtain ⟨j, hj, rfl, rfl, hown, hg⟩ := hrel
    by_cases hlt : j < es.length
    · obtain ⟨e, he⟩ : ∃ e, (marksE es k0 j)[j]? = some e := ⟨_, List.getElem?_eq_getElem (by rw [marksE_len]; exact hlt)⟩
      have hE : Elems wr B (.slice (some ⟨g, 0, none⟩) (marksE es k0 j).length cap) (marksE es k0 j) := by
        unfold Elems
        rw [marksE_len]; exact hown
      obtain ⟨a0, a1, a2, a3⟩ := hE.cells j e he
      have f0 := hown.frozenAt (j * 4)
      have f1 := hown.frozenAt (j * 4 + 1)
      have f2 := hown.frozenAt (j * 4 + 2)
      have f3 := hown.frozenAt (j * 4 + 3)
      have hj8 : (j : Int) < (es.length : Int) := by omega
      obtain ⟨k, hk⟩ : ∃ k, k = k0 + 4 * (j : Int) := ⟨_, rfl⟩
      have hkb : 0 ≤ k ∧ k ≤ 2000000000 := by omega
      rw [← hk]
      have HK : Hid _ := hk
      obtain ⟨hkb0, hkb1⟩ := hkb
      have HW : Hid _ := hown
      clear hE he hk hown
      go_wp2
      exact ⟨me_step hlt HW.out hg HK.out (by have := HK.out; omega), by simp [intOf]; omega⟩
    · have hjz : j = es.length := by omega
      subst hjz
      go_wp2
      go_ret
      exact ⟨rfl, hown, hg⟩

set_option maxRecDepth 100000 in
set_option maxHeartbeats 1000000 in
theorem markE_none (w : World) (a : Option Addr) (c : Nat) (k0 : Int) : Calls Tryd.prog 20 #[.slice a 0 c, .int .i64 k0] w fun e w' => e = .returned (.int .i64 k0) ∧ w' = w := by
  go_enter Tryd.func20, Tryd.ntmps20
  go_wp2
  go_loop [1, 5] (fun k i => k = .int .i64 k0 ∧ i = .int .i64 0) (fun _ _ => 0)
  case atStart => exact ⟨rfl, rfl⟩
  case round =>
    obtain ⟨rfl, rfl⟩ := hrel
    go_wp2
    go_ret
    exact ⟨rfl, rfl⟩

theorem markE_any {w : World} {B : Nat} {v : Value} {es : List El} {k0 : Int} (hk0 : 0 ≤ k0) (hk1 : k0 ≤ 1073741824) (hz : es.length ≤ 1048576) (hI : Elems w B v es) :
    Calls Tryd.prog 20 #[v, .int .i64 k0] w fun e w' => e = .returned (.int .i64 (k0 + 4 * (es.length : Int))) ∧ Elems w' B v (marksE es k0 es.length) ∧ w.grownBy w' v.ownBlock := by
  rcases hI.form with ⟨rfl, rfl⟩ | ⟨g, cap, rfl, h1, h2⟩
  · refine (markE_none w _ _ k0).mono ?_
    rintro e w' ⟨rfl, rfl⟩
    exact ⟨by simp, hI, World.grownBy.refl _ _⟩
  · refine (markE_row w B g cap es k0 hk0 hk1 hz hI).mono ?_
    rintro e w' ⟨rfl, h3, h4⟩
    refine ⟨rfl, ?_, h4⟩
    unfold Elems
    rw [marksE_len]; exact h3

set_option maxRecDepth 100000 in
set_option maxHeartbeats 1000000 in
theorem heldE_none (w : World) (a : Option Addr) (c : Nat) (k0 : Int) : Calls Tryd.prog 21 #[.slice a 0 c, .int .i64 k0] w fun e w' => e = .returned (.int .i64 k0) ∧ w' = w := by
  go_enter Tryd.func21, Tryd.ntmps21
  go_wp2
  go_loop [1, 5] (fun k i => k = .int .i64 k0 ∧ i = .int .i64 0) (fun _ _ => 0)
  case atStart => exact ⟨rfl, rfl⟩
  case round =>
    obtain ⟨rfl, rfl⟩ := hrel
    go_wp2
    go_ret
    exact ⟨rfl, rfl⟩

set_option maxRecDepth 100000 in
set_option maxHeartbeats 2000000 in
theorem heldE_row (w : World) (B g cap : Nat) (es : List El) (k0 : Int) (hk0 : 0 ≤ k0) (hk1 : k0 ≤ 1073741824) (hz : es.length ≤ 1048576) (hI : Elems w B (.slice (some ⟨g, 0, none⟩) (marksE es k0 es.length).length cap) (marksE es k0 es.length)) :
    Calls Tryd.prog 21 #[.slice (some ⟨g, 0, none⟩) es.length cap, .int .i64 k0] w fun e w' => e = .returned (.int .i64 (k0 + 4 * (es.length : Int))) ∧ w' = w := by
  go_enter Tryd.func21, Tryd.ntmps21
  go_wp2
  go_loop [1, 5] (fun kv i => ∃ j : Nat, j ≤ es.length ∧ i = .int .i64 j ∧ kv = .int .i64 (k0 + 4 * (j : Int))) (fun _ i => es.length - (intOf i).toNat)
  case atStart => exact ⟨0, Nat.zero_le _, rfl, by simp⟩
  case round =>
    obtain ⟨j, hj, rfl, rfl⟩ := hrel
    by_cases hlt : j < es.length
    · obtain ⟨a0, a1, a2, a3⟩ := hI.cells j _ (marksE_at es k0 es.length j hlt hlt)
      have hj8 : (j : Int) < (es.length : Int) := by omega
      obtain ⟨k, hk⟩ : ∃ k, k = k0 + 4 * (j : Int) := ⟨_, rfl⟩
      have hkb : 0 ≤ k ∧ k ≤ 2000000000 := by omega
      rw [← hk] at a0 a1 a2 a3 ⊢
      simp only [mkE] at a0 a1 a2 a3
      have HK : Hid _ := hk
      obtain ⟨hkb0, hkb1⟩ := hkb
      clear hk hI
      go_wp2
      exact ⟨⟨j + 1, by omega, by go_num, by have := HK.out; congr 1; omega⟩, by simp [intOf]; omega⟩
    · have hjz : j = es.length := by omega
      subst hjz
      clear hI
      go_wp2
      go_ret
      exact ⟨rfl, rfl⟩

theorem heldE_any {w : World} {B : Nat} {v : Value} {es : List El} {k0 : Int} (hk0 : 0 ≤ k0) (hk1 : k0 ≤ 1073741824) (hz : es.length ≤ 1048576) (hI : Elems w B v (marksE es k0 es.length)) :
    Calls Tryd.prog 21 #[v, .int .i64 k0] w fun e w' => e = .returned (.int .i64 (k0 + 4 * (es.length : Int))) ∧ w' = w := by
  have hl := marksE_len es k0 es.length
  rcases hI.form with ⟨rfl, h⟩ | ⟨g, cap, rfl, h1, h2⟩
  · have e0 : es.length = 0 := by rw [← hl, h]; rfl
    rw [e0]
    refine (heldE_none w _ _ k0).mono ?_
    rintro e w' ⟨rfl, rfl⟩
    exact ⟨by simp, rfl⟩
  · rw [hl]
    exact heldE_row w B g cap es k0 hk0 hk1 hz hI
end Go.Proofs.YtcmanfcgoapjjafDoor

namespace Go.Proofs.YtcmanfcgoapjjafDoor
open Go.RowKit

set_option maxRecDepth 100000 in
set_option maxHeartbeats 1000000 in
theorem toElem_any (w : World) (f s t : Int) (v : Bool) : Calls Tryd.prog 81 #[.agg #[.int .i64 f, .int .i64 s, .int .i64 t, .bool v]] w fun e w' => e = .returned (.agg #[.int .i64 f, .int .i64 s, .int .i64 t, .bool v]) ∧ Below w.heap.size w w' := by
  go_enter Tryd.func81, Tryd.ntmps81
  go_wp2
  refine bodyPost_ret (v := .agg #[.int .i64 f, .int .i64 s, .int .i64 t, .bool v]) ?_ rfl ⟨rfl, (((Below.refl _ _).alloc (Nat.le_refl _) _).alloc (by simp) _).alloc (by simp; omega) _⟩
  rw [results_cell1 rfl]
  go_simp
end Go.Proofs.YtcmanfcgoapjjafDoor

namespace Go.Proofs.YtcmanfcgoapjjafDoor
open Go.RowKit

def IsRow (k : IntKind) (w : World) (a : Option Addr) (len cap : Nat) (zs : List Int) : Prop :=
  (a = none ∧ len = 0 ∧ cap = 0 ∧ zs = []) ∨
  ∃ x, a = some x ∧ len ≤ cap ∧ cap ≤ maxLen ∧ zs.length = cap ∧ (∀ i, i < zs.length → w.cell? (x.add i) = some (.int k (zs.getD i 0))) ∧ ∀ n ∈ zs, (Lit.int k n).wf = true
end Go.Proofs.YtcmanfcgoapjjafDoor

namespace Go.Proofs.YtcmanfcgoapjjafDoor
open Go.ChangeShapes Go.WideShapes Go.ChangeAt Go.WideMaps Go.WideElems Go.RowKit Go.Deep Go.Joins

theorem spot_none {w : World} {a : Addr} {v : Value} (h : w.cell? a = some v) : a.spot = none := by
  unfold World.cell? at h
  split at h
  · cases hs : a.spot with
    | none => rfl
    | some x => simp [hs] at h
  · simp at h

theorem list5 {cs : List Value} (h : cs.length = 5) : ∃ v0 v1 v2 v3 v4, cs = [v0, v1, v2, v3, v4] := by
  match cs, h with
  | [v0, v1, v2, v3, v4], _ => exact ⟨v0, v1, v2, v3, v4, rfl⟩

instance : Inhabited Ent := ⟨⟨[], ⟨0, 0, 0, false⟩⟩⟩

/-- One entry handed in: its cells from place p of block b on. -/
def ArgEnt (w : World) (b p : Nat) (e : Ent) : Prop :=
  ∃ (ra : Option Addr) (rl rc : Nat) (zs : List Int), IsRow .i64 w ra rl rc zs ∧ e.runes = zs.take rl ∧ e.runes.length = rl ∧ w.cell? ⟨b, p, none⟩ = some (.slice ra rl rc) ∧ w.cell? ⟨b, p + 1, none⟩ = some (.int .i64 e.el.first) ∧
    w.cell? ⟨b, p + 2, none⟩ = some (.int .i64 e.el.second) ∧ w.cell? ⟨b, p + 3, none⟩ = some (.int .i64 e.el.third) ∧ w.cell? ⟨b, p + 4, none⟩ = some (.bool e.el.varies)

/-- A list of entries handed in. -/
def ArgEnts (w : World) (a : Option Addr) (len cap : Nat) (es : List Ent) : Prop :=
  es.length = len ∧ len ≤ cap ∧ cap ≤ maxLen ∧ (len = 0 ∨ ∃ b o, a = some ⟨b, o, none⟩ ∧ ∀ (k : Nat) (e : Ent), es[k]? = some e → ArgEnt w b (o + k * 5) e)

section
variable {H : Type} {enc : TypeId × Value → H} {w : World} {base : Nat}

theorem open_entry {n : Nat} {cs : List Value} {x : DataW H × List MemPlace} (h : DataW.trod enc Tryd.prog w base (fun _ => true) true n 81 cs = some x) :
    ∃ (ra : Option Addr) (rl rc : Nat) (zs : List Int) (f s t : Int) (v : Bool), cs = [.slice ra rl rc, .int .i64 f, .int .i64 s, .int .i64 t, .bool v] ∧ IsRow .i64 w ra rl rc zs := by
  obtain ⟨y0, y1, m, _, hl, h0, h1⟩ := trod_struct2 Tryd.underlying81 h
  have c5 : Tryd.prog.cellsOf 81 = 5 := by kernel_rfl
  have c1 : Tryd.prog.cellsOf 25 = 1 := by kernel_rfl
  have c4 : Tryd.prog.cellsOf 79 = 4 := by kernel_rfl
  rw [c5] at hl
  obtain ⟨v0, v1, v2, v3, v4, rfl⟩ := list5 hl
  simp only [c1, c4, List.take, List.drop] at h0 h1
  obtain ⟨z0, z1, z2, z3, m', _, _, g0, g1, g2, g3⟩ := trod_struct4 Tryd.underlying79 h1
  have d1 : Tryd.prog.cellsOf 3 = 1 := by kernel_rfl
  have d2 : Tryd.prog.cellsOf 4 = 1 := by kernel_rfl
  simp only [d1, d2, List.take, List.drop] at g0 g1 g2 g3
  obtain ⟨f, hf, _⟩ := DataW.trod_int Tryd.underlying3 g0
  obtain ⟨s, hs, _⟩ := DataW.trod_int Tryd.underlying3 g1
  obtain ⟨t, ht, _⟩ := DataW.trod_int Tryd.underlying3 g2
  obtain ⟨v, hv, _⟩ := DataW.trod_bool Tryd.underlying4 g3
  cases hf
  cases hs
  cases ht
  cases hv
  rcases open_ints Tryd.underlying25 Tryd.underlying3 (by kernel_rfl) h0 with ⟨hcs, _⟩ | ⟨x, l, c, zs, hcs, _, hlc, hm, hz, _, hcell, hwz⟩
  · cases hcs
    exact ⟨none, 0, 0, [], f, s, t, v, rfl, .inl ⟨rfl, rfl, rfl, rfl⟩⟩
  · cases hcs
    exact ⟨some x, l, c, zs, f, s, t, v, rfl, .inr ⟨_, rfl, hlc, hm, by simpa using hz, hcell, hwz⟩⟩

theorem isRow_take {a : Option Addr} {len cap : Nat} {zs : List Int} (h : IsRow .i64 w a len cap zs) : (zs.take len).length = len := by
  rcases h with ⟨_, rfl, _, rfl⟩ | ⟨_, _, h1, _, h2, _⟩
  · rfl
  · rw [List.length_take]; omega

theorem open_entries {n : Nat} {a : Option Addr} {len cap : Nat} {x : DataW H × List MemPlace} (h : DataW.trod enc Tryd.prog w base (fun _ => true) true n 22 [.slice a len cap] = some x) : ∃ es, ArgEnts w a len cap es := by
  have c5 : Tryd.prog.cellsOf 81 = 5 := by kernel_rfl
  rcases open_slice Tryd.underlying22 h with ⟨hcs, _⟩ | ⟨a', len', cap', m, n', D, Pl, hcs, _, hl, hm, hmm, _, hx⟩
  · cases hcs
    exact ⟨[], rfl, Nat.le_refl _, Nat.zero_le _, .inl rfl⟩
  · cases hcs
    rw [c5] at hx
    simp only [if_true] at hmm
    subst hmm
    by_cases h0 : len = 0
    · subst h0
      exact ⟨[], rfl, hl, hm, .inl rfl⟩
    · have hsp : a'.spot = none := by
        obtain ⟨cs', h1, _⟩ := hx 0 (by omega)
        obtain ⟨_, h3, h4⟩ := World.cells?_some h1
        have h5 := h4 0 (by omega)
        rw [List.getElem?_eq_getElem (by omega)] at h5
        have := spot_none h5
        simpa [Addr.add] using this
      have hadd : ∀ i, a'.add i = ⟨a'.block, a'.off + i, none⟩ := fun i => by
        unfold Addr.add
        split
        · rename_i hi
          subst hi
          cases a'
          simp at hsp
          simp [hsp]
        · rfl
      have each : ∀ i, i < len → ∃ e : Ent, ArgEnt w a'.block (a'.off + i * 5) e := fun i hi => by
        obtain ⟨cs', h1, h2⟩ := hx i (by omega)
        obtain ⟨ra, rl, rc, zs, f, s, t, v, rfl, hr⟩ := open_entry h2
        obtain ⟨_, _, h4⟩ := World.cells?_some h1
        have at' : ∀ j, j < 5 → w.cell? ⟨a'.block, a'.off + i * 5 + j, none⟩ = [Value.slice ra rl rc, .int .i64 f, .int .i64 s, .int .i64 t, .bool v][j]? := fun j hj => by
          rw [← h4 j hj, hadd]
          unfold Addr.add
          split
          · rename_i hj; subst hj; rfl
          · rfl
        exact ⟨⟨zs.take rl, ⟨f, s, t, v⟩⟩, ra, rl, rc, zs, hr, rfl, isRow_take hr, at' 0 (by omega), at' 1 (by omega), at' 2 (by omega), at' 3 (by omega), at' 4 (by omega)⟩
      obtain ⟨E, hE⟩ := choose_lt (p := fun i e => ArgEnt w a'.block (a'.off + i * 5) e) each
      refine ⟨(List.range len).map E, by simp, hl, hm, .inr ⟨a'.block, a'.off, ?_, fun k e he => ?_⟩⟩
      · cases a'
        simp at hsp
        simp [hsp]
      · rw [List.getElem?_map, Option.map_eq_some_iff] at he
        obtain ⟨i, hi, rfl⟩ := he
        obtain ⟨hk, e2⟩ := List.getElem?_eq_some_iff.1 hi
        simp at hk e2
        subst e2
        exact hE k hk
end
end Go.Proofs.YtcmanfcgoapjjafDoor
