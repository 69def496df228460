/- Texts of mine laid together: SRunes4, SFourth, SKey0, SFirsts, SBegin. -/
import Derived.Test.YtanfebccenfffagDoorSD
import Derived.Test.YtanfebccenfffagDoorMB3
import Derived.Test.YtanfebccenfffagDoorFour
import Derived.Test.YtanfebccenfffagDoorRowKinds
import Derived.Test.YtanfebccenfffagDoorMB7
import Derived.Test.YtanfebccenfffagDoorMB5
import Derived.Deep.RegionHeld
import Derived.Test.YtanfebccenfffagDoorSame2
namespace Go.Proofs.YtanfebccenfffagDoor
open Go.RowKit

set_option maxRecDepth 100000 in
set_option maxHeartbeats 1000000 in
theorem runes4_any (s : ByteArray) (w : World) (hs : s.size ≤ 1073741824) :
    Calls Tryd.prog 25 #[.string s] w fun e w' => ∃ v, e = .returned (.tuple #[v, .bool (ok4 s)]) ∧ (s.size ≤ 200 → Ints w' w.heap.size v (rn4 s)) ∧ Below w.heap.size w w' := by
  by_cases hl : 200 < s.size
  · have h2 : (200 : Int) < (s.size : Int) := by omega
    have HK : Hid (ok4 s = false) := decide_eq_false fun c => by omega
    go_enter Tryd.func25, Tryd.ntmps25
    go_wp2
    go_ret2
    rw [HK.out]
    exact ⟨_, rfl, fun h => absurd h (by omega), Below.refl _ _⟩
  · have h2 : ¬ (200 : Int) < (s.size : Int) := by omega
    have HK : Hid (ok4 s = decide (((rn4 s).length : Int) ≤ 200)) := by
      show _ = _
      unfold ok4
      rw [decide_eq_decide]
      omega
    have DEC := fun w => l1Decode_any s w hs
    have hdl := (Dec.decT_len s.size s (Nat.le_refl _)).1
    have hnl : (rn4 s).length ≤ 1800 := by unfold rn4; rw [nD_len]; have := apD_len (Dec.decT s.size s).1; omega
    have D := fun (u : World) (B : Nat) (v : Value) (h : Ints u B v (Dec.decT s.size s).1) => d_any (by omega) h
    change ∀ (u : World) (B : Nat) (v : Value), Ints u B v (Dec.decT s.size s).1 → Calls Tryd.prog 38 #[v] u fun e w' => ∃ v', e = .returned v' ∧ Ints w' u.heap.size v' (rn4 s) ∧ Below u.heap.size u w' at D
    rw [HK.out]
    clear HK hdl
    generalize rn4 s = l at *
    generalize (Dec.decT s.size s).1 = l0 at *
    generalize (Dec.decT s.size s).2 = n0 at *
    go_enter Tryd.func25, Tryd.ntmps25
    go_wp2_with fail
    refine (DEC _).mono ?_
    rintro e w1 ⟨v1, rfl, i1, b1⟩
    clear DEC
    go_wp2_with fail
    refine (D _ _ _ i1).mono ?_
    rintro e w2 ⟨v2, rfl, i2, b2⟩
    clear D i1
    have i2' := ints_low2 i2 b1.size
    have HB : Hid (Below _ _ _) := b1.trans (b2.mono b1.size)
    obtain ⟨a, c, rfl⟩ : ∃ a c, v2 = .slice a l.length c := by
      rcases i2'.form with ⟨rfl, rfl⟩ | ⟨g, cap, rfl, _, _⟩
      · exact ⟨_, _, rfl⟩
      · exact ⟨_, _, rfl⟩
    have HI : Hid (Ints _ _ _ _) := i2'
    clear i2 i2' b1 b2
    go_wp2
    go_ret2
    exact ⟨_, rfl, fun _ => HI.out, HB.out⟩
end Go.Proofs.YtanfebccenfffagDoor

namespace Go.Proofs.YtanfebccenfffagDoor
open Go.RowKit

def FoRel (w : World) (sh : Bool) (es : List El) (v6 v7 bv iv : Value) (wr : World) : Prop :=
  ∃ (k : Nat) (fs : List Int) (xs : List El) (b : Bool), k ≤ es.length ∧ iv = .int .i64 k ∧ bv = .bool b ∧ fourS sh es k = (fs, xs, b) ∧ Ints wr w.heap.size v6 fs ∧ Elems wr w.heap.size v7 xs ∧ Below w.heap.size w wr

set_option maxRecDepth 100000 in
set_option maxHeartbeats 8000000 in
theorem fourth_row (w : World) (B g cap : Nat) (es : List El) (sh : Bool) (hz : es.length ≤ 1048576) (hL : Elems w B (.slice (some ⟨g, 0, none⟩) es.length cap) es) :
    Calls Tryd.prog 49 #[.slice (some ⟨g, 0, none⟩) es.length cap, .bool sh] w fun e w' => ∃ v v', e = .returned (.tuple #[v, v']) ∧ Ints w' w.heap.size v (fourths sh es) ∧ Elems w' w.heap.size v' (counted sh es) ∧ Below w.heap.size w w' := by
  obtain ⟨i0, hi0, hz0, hs0, hy0⟩ := info_parts info_int
  obtain ⟨i1, hi1, hz1, hs1, hy1⟩ := info_parts info_elem
  go_enter Tryd.func49, Tryd.ntmps49
  go_wp2
  go_loopw [6, 7, 8, 14] (fun v6 v7 bv iv wr => FoRel w sh es v6 v7 bv iv wr) (fun _ _ _ iv _ => es.length - (intOf iv).toNat)
  case atStart => exact ⟨0, [], [], false, Nat.zero_le _, rfl, rfl, rfl, World.ownsRow_nil _ _ _ _, World.ownsRow_nil _ _ _ _, Below.refl _ _⟩
  case round =>
    obtain ⟨k, fs, xs, b, hk, rfl, rfl, hf, hI, hE, hbw⟩ := hrel
    have hfl := fourS_len sh es k
    rw [hf] at hfl
    have hfl1 : fs.length ≤ k := hfl.1
    have hfl2 : xs.length ≤ k := hfl.2
    have HF : Hid (fourS sh es k = (fs, xs, b)) := hf
    clear hf hfl
    by_cases hlt : k < es.length
    · obtain ⟨e, he⟩ : ∃ e, es[k]? = some e := ⟨_, List.getElem?_eq_getElem hlt⟩
      have hS2 := fourS_succ he HF.out
      obtain ⟨a0, a1, a2, a3⟩ := (hL.below hbw).cells k e he
      have hk8 : (k : Int) < (es.length : Int) := by omega
      have hsz := hbw.size
      unfold Ints at hI
      unfold Elems at hE
      clear he HF hL
      cases sh
      · rw [four1_plain] at hS2
        have HS2 : Hid _ := hS2
        clear hS2
        have hblk : (wr.alloc (.cells #[.int .i64 e.first, .int .i64 e.second, .int .i64 e.third, .bool e.varies] 56)).heap[wr.heap.size]? = some (.cells #[.int .i64 e.first, .int .i64 e.second, .int .i64 e.third, .bool e.varies] 56) := heap_alloc_new wr _
        have HBLK : Hid _ := hblk
        clear hblk
        go_wp2_with (at_builtin; refine wpList_append_own _ rfl _ _ 34 rfl w.heap.size 3 i0 (.int .i64 0) 1 8 Tryd.underlying34 hi0 hz0 hs0 hy0 rfl (by decide) _ _ _ rfl ((hI.alloc _).alloc _) ⟨wr.heap.size + 1, 0, none⟩ 1 1 [.int .i64 65535] rfl rfl (cells1_at _ _ _ _ (by simp)) (fun u hu => by simp at hu; subst hu; rfl) (by unfold maxLen; omega) (by omega) (by simp; omega) ?_)
        intro v6' w2 ho2 hg2 _
        have hI2 : Ints w2 w.heap.size v6' (fs ++ [65535]) := Ints.snoc ho2
        have hE2 : Elems w2 w.heap.size u7 xs := World.ownsRow.kept ((hE.alloc _).alloc _) hg2 (own_type hE hI (by decide))
        have hlow := fun j hj => (World.ownsRow.lt hI j hj).2
        have hb2 : w2.heap[wr.heap.size]? = some (.cells #[.int .i64 e.first, .int .i64 e.second, .int .i64 e.third, .bool e.varies] 56) := by
          rw [hg2.block wr.heap.size (by simp; omega) (fun c => by have := hlow wr.heap.size c.symm; omega), Below.heap_alloc _ _ _ (by simp)]; exact HBLK.out
        have hbw2 : Below w.heap.size w w2 := Below.grown ((hbw.alloc hbw.size _).alloc (hbw.alloc hbw.size _).size _) hg2 ((hbw.alloc hbw.size _).alloc (hbw.alloc hbw.size _).size _).size (fun j hj => (World.ownsRow.lt hI j hj).1)
        have d0 := cell_of_row _ _ 0 _ _ _ hb2
        have d1 := cell_of_row _ _ 1 _ _ _ hb2
        have d2 := cell_of_row _ _ 2 _ _ _ hb2
        have d3 := cell_of_row _ _ 3 _ _ _ hb2
        have hsz2 := hbw2.size
        have HI2 : Hid (Ints _ _ _ _) := hI2
        have HB2 : Hid (Below _ _ _) := hbw2
        clear ho2 hg2 hb2 HBLK hlow hI hE hI2 hbw2 a0 a1 a2 a3
        unfold Elems at hE2
        go_wp2_with (at_builtin; refine wpList_append_own _ rfl _ _ 60 rfl w.heap.size 56 i1 _ 4 32 Tryd.underlying60 hi1 hz1 hs1 hy1 rfl (by decide) _ _ _ rfl (hE2.alloc _) ⟨w2.heap.size, 0, none⟩ 1 1 (elC e) rfl rfl (cells4_at _ _ e _ (by simp)) ?hone (by unfold maxLen; omega) (by omega) (by simp; omega) ?_)
        case hone =>
          intro u hu
          simp [elC] at hu
          rcases hu with rfl | rfl | rfl | rfl <;> rfl
        intro v7' w3 ho3 hg3 _
        have hE3 : Elems w3 w.heap.size v7' (xs ++ [e]) := Elems.snoc ho3
        have hI3 : Ints w3 w.heap.size v6' (fs ++ [65535]) := World.ownsRow.kept (World.ownsRow.alloc HI2.out _) hg3 (own_type HI2.out hE2 (by decide))
        have hbw3 : Below w.heap.size w w3 := Below.grown (HB2.out.alloc HB2.out.size _) hg3 (HB2.out.alloc HB2.out.size _).size (fun j hj => (World.ownsRow.lt hE2 j hj).1)
        have HE3 : Hid (Elems _ _ _ _) := hE3
        have HI3 : Hid (Ints _ _ _ _) := hI3
        have HB3 : Hid (Below _ _ _) := hbw3
        clear ho3 hg3 hE3 hI3 hbw3 HI2 HB2 d0 d1 d2 d3 hE2
        go_wp2
        exact ⟨⟨k + 1, _, _, b, hlt, by go_num, rfl, HS2.out, HI3.out, HE3.out, HB3.out⟩, by simp [intOf]; omega⟩
      · cases hv : e.varies
        · rw [hv] at a3
          by_cases h0 : e.first = 0
          · rw [h0] at a0
            cases b
            · by_cases h1 : e.second = 0
              · rw [h1] at a1
                by_cases h2 : e.third = 0
                · rw [h2] at a2
                  rw [four1_zero hv h0 h1 h2] at hS2
                  have HS2 : Hid _ := hS2
                  clear hS2
                  have he2 : e = ⟨0, 0, 0, false⟩ := by cases e; simp_all
                  rw [he2] at HS2
                  have hblk : (wr.alloc (.cells #[.int .i64 0, .int .i64 0, .int .i64 0, .bool false] 56)).heap[wr.heap.size]? = some (.cells #[.int .i64 0, .int .i64 0, .int .i64 0, .bool false] 56) := heap_alloc_new wr _
                  have HBLK : Hid _ := hblk
                  clear hblk
                  go_wp2_with (at_builtin; refine wpList_append_own _ rfl _ _ 34 rfl w.heap.size 3 i0 (.int .i64 0) 1 8 Tryd.underlying34 hi0 hz0 hs0 hy0 rfl (by decide) _ _ _ rfl ((hI.alloc _).alloc _) ⟨wr.heap.size + 1, 0, none⟩ 1 1 [.int .i64 0] rfl rfl (cells1_at _ _ _ _ (by simp)) (fun u hu => by simp at hu; subst hu; rfl) (by unfold maxLen; omega) (by omega) (by simp; omega) ?_)
                  intro v6' w2 ho2 hg2 _
                  have hI2 : Ints w2 w.heap.size v6' (fs ++ [0]) := Ints.snoc ho2
                  have hE2 : Elems w2 w.heap.size u7 xs := World.ownsRow.kept ((hE.alloc _).alloc _) hg2 (own_type hE hI (by decide))
                  have hlow := fun j hj => (World.ownsRow.lt hI j hj).2
                  have hb2 : w2.heap[wr.heap.size]? = some (.cells #[.int .i64 0, .int .i64 0, .int .i64 0, .bool false] 56) := by
                    rw [hg2.block wr.heap.size (by simp; omega) (fun c => by have := hlow wr.heap.size c.symm; omega), Below.heap_alloc _ _ _ (by simp)]; exact HBLK.out
                  have hbw2 : Below w.heap.size w w2 := Below.grown ((hbw.alloc hbw.size _).alloc (hbw.alloc hbw.size _).size _) hg2 ((hbw.alloc hbw.size _).alloc (hbw.alloc hbw.size _).size _).size (fun j hj => (World.ownsRow.lt hI j hj).1)
                  have d0 := cell_of_row _ _ 0 _ _ _ hb2
                  have d1 := cell_of_row _ _ 1 _ _ _ hb2
                  have d2 := cell_of_row _ _ 2 _ _ _ hb2
                  have d3 := cell_of_row _ _ 3 _ _ _ hb2
                  have hsz2 := hbw2.size
                  have HI2 : Hid (Ints _ _ _ _) := hI2
                  have HB2 : Hid (Below _ _ _) := hbw2
                  clear ho2 hg2 hb2 HBLK hlow hI hE hI2 hbw2 a0 a1 a2 a3
                  unfold Elems at hE2
                  go_wp2_with (at_builtin; refine wpList_append_own _ rfl _ _ 60 rfl w.heap.size 56 i1 _ 4 32 Tryd.underlying60 hi1 hz1 hs1 hy1 rfl (by decide) _ _ _ rfl (hE2.alloc _) ⟨w2.heap.size, 0, none⟩ 1 1 (elC (⟨0, 0, 0, false⟩ : El)) rfl rfl (cells4_at _ _ (⟨0, 0, 0, false⟩ : El) _ (by simp)) ?hone (by unfold maxLen; omega) (by omega) (by simp; omega) ?_)
                  case hone =>
                    intro u hu
                    simp [elC] at hu
                    rcases hu with rfl | rfl | rfl | rfl <;> rfl
                  intro v7' w3 ho3 hg3 _
                  have hE3 : Elems w3 w.heap.size v7' (xs ++ [(⟨0, 0, 0, false⟩ : El)]) := Elems.snoc ho3
                  have hI3 : Ints w3 w.heap.size v6' (fs ++ [0]) := World.ownsRow.kept (World.ownsRow.alloc HI2.out _) hg3 (own_type HI2.out hE2 (by decide))
                  have hbw3 : Below w.heap.size w w3 := Below.grown (HB2.out.alloc HB2.out.size _) hg3 (HB2.out.alloc HB2.out.size _).size (fun j hj => (World.ownsRow.lt hE2 j hj).1)
                  have HE3 : Hid (Elems _ _ _ _) := hE3
                  have HI3 : Hid (Ints _ _ _ _) := hI3
                  have HB3 : Hid (Below _ _ _) := hbw3
                  clear ho3 hg3 hE3 hI3 hbw3 HI2 HB2 d0 d1 d2 d3 hE2
                  go_wp2
                  exact ⟨⟨k + 1, _, _, false, hlt, by go_num, rfl, HS2.out, HI3.out, HE3.out, HB3.out⟩, by simp [intOf]; omega⟩
                · rw [four1_some hv h0 (fun c => h2 c.2)] at hS2
                  have HS2 : Hid _ := hS2
                  have h2' : (e.third == 0) = false := by simpa using h2
                  clear hS2
                  have he2 : e = ⟨0, 0, e.third, false⟩ := by cases e; simp_all
                  rw [he2] at HS2
                  clear he2
                  have hblk : (wr.alloc (.cells #[.int .i64 0, .int .i64 0, .int .i64 e.third, .bool false] 56)).heap[wr.heap.size]? = some (.cells #[.int .i64 0, .int .i64 0, .int .i64 e.third, .bool false] 56) := heap_alloc_new wr _
                  have HBLK : Hid _ := hblk
                  clear hblk
                  go_wp2_with (at_builtin; refine wpList_append_own _ rfl _ _ 34 rfl w.heap.size 3 i0 (.int .i64 0) 1 8 Tryd.underlying34 hi0 hz0 hs0 hy0 rfl (by decide) _ _ _ rfl ((hI.alloc _).alloc _) ⟨wr.heap.size + 1, 0, none⟩ 1 1 [.int .i64 65535] rfl rfl (cells1_at _ _ _ _ (by simp)) (fun u hu => by simp at hu; subst hu; rfl) (by unfold maxLen; omega) (by omega) (by simp; omega) ?_)
                  intro v6' w2 ho2 hg2 _
                  have hI2 : Ints w2 w.heap.size v6' (fs ++ [65535]) := Ints.snoc ho2
                  have hE2 : Elems w2 w.heap.size u7 xs := World.ownsRow.kept ((hE.alloc _).alloc _) hg2 (own_type hE hI (by decide))
                  have hlow := fun j hj => (World.ownsRow.lt hI j hj).2
                  have hb2 : w2.heap[wr.heap.size]? = some (.cells #[.int .i64 0, .int .i64 0, .int .i64 e.third, .bool false] 56) := by
                    rw [hg2.block wr.heap.size (by simp; omega) (fun c => by have := hlow wr.heap.size c.symm; omega), Below.heap_alloc _ _ _ (by simp)]; exact HBLK.out
                  have hbw2 : Below w.heap.size w w2 := Below.grown ((hbw.alloc hbw.size _).alloc (hbw.alloc hbw.size _).size _) hg2 ((hbw.alloc hbw.size _).alloc (hbw.alloc hbw.size _).size _).size (fun j hj => (World.ownsRow.lt hI j hj).1)
                  have d0 := cell_of_row _ _ 0 _ _ _ hb2
                  have d1 := cell_of_row _ _ 1 _ _ _ hb2
                  have d2 := cell_of_row _ _ 2 _ _ _ hb2
                  have d3 := cell_of_row _ _ 3 _ _ _ hb2
                  have hsz2 := hbw2.size
                  have HI2 : Hid (Ints _ _ _ _) := hI2
                  have HB2 : Hid (Below _ _ _) := hbw2
                  clear ho2 hg2 hb2 HBLK hlow hI hE hI2 hbw2 a0 a1 a2 a3
                  unfold Elems at hE2
                  go_wp2_with (at_builtin; refine wpList_append_own _ rfl _ _ 60 rfl w.heap.size 56 i1 _ 4 32 Tryd.underlying60 hi1 hz1 hs1 hy1 rfl (by decide) _ _ _ rfl (hE2.alloc _) ⟨w2.heap.size, 0, none⟩ 1 1 (elC (⟨0, 0, e.third, false⟩ : El)) rfl rfl (cells4_at _ _ (⟨0, 0, e.third, false⟩ : El) _ (by simp)) ?hone (by unfold maxLen; omega) (by omega) (by simp; omega) ?_)
                  case hone =>
                    intro u hu
                    simp [elC] at hu
                    rcases hu with rfl | rfl | rfl | rfl <;> rfl
                  intro v7' w3 ho3 hg3 _
                  have hE3 : Elems w3 w.heap.size v7' (xs ++ [(⟨0, 0, e.third, false⟩ : El)]) := Elems.snoc ho3
                  have hI3 : Ints w3 w.heap.size v6' (fs ++ [65535]) := World.ownsRow.kept (World.ownsRow.alloc HI2.out _) hg3 (own_type HI2.out hE2 (by decide))
                  have hbw3 : Below w.heap.size w w3 := Below.grown (HB2.out.alloc HB2.out.size _) hg3 (HB2.out.alloc HB2.out.size _).size (fun j hj => (World.ownsRow.lt hE2 j hj).1)
                  have HE3 : Hid (Elems _ _ _ _) := hE3
                  have HI3 : Hid (Ints _ _ _ _) := hI3
                  have HB3 : Hid (Below _ _ _) := hbw3
                  clear ho3 hg3 hE3 hI3 hbw3 HI2 HB2 d0 d1 d2 d3 hE2
                  go_wp2
                  exact ⟨⟨k + 1, _, _, false, hlt, by go_num, rfl, HS2.out, HI3.out, HE3.out, HB3.out⟩, by simp [intOf]; omega⟩
              · rw [four1_some hv h0 (fun c => h1 c.1)] at hS2
                have HS2 : Hid _ := hS2
                have h1' : (e.second == 0) = false := by simpa using h1
                clear hS2
                have he2 : e = ⟨0, e.second, e.third, false⟩ := by cases e; simp_all
                rw [he2] at HS2
                clear he2
                have hblk : (wr.alloc (.cells #[.int .i64 0, .int .i64 e.second, .int .i64 e.third, .bool false] 56)).heap[wr.heap.size]? = some (.cells #[.int .i64 0, .int .i64 e.second, .int .i64 e.third, .bool false] 56) := heap_alloc_new wr _
                have HBLK : Hid _ := hblk
                clear hblk
                go_wp2_with (at_builtin; refine wpList_append_own _ rfl _ _ 34 rfl w.heap.size 3 i0 (.int .i64 0) 1 8 Tryd.underlying34 hi0 hz0 hs0 hy0 rfl (by decide) _ _ _ rfl ((hI.alloc _).alloc _) ⟨wr.heap.size + 1, 0, none⟩ 1 1 [.int .i64 65535] rfl rfl (cells1_at _ _ _ _ (by simp)) (fun u hu => by simp at hu; subst hu; rfl) (by unfold maxLen; omega) (by omega) (by simp; omega) ?_)
                intro v6' w2 ho2 hg2 _
                have hI2 : Ints w2 w.heap.size v6' (fs ++ [65535]) := Ints.snoc ho2
                have hE2 : Elems w2 w.heap.size u7 xs := World.ownsRow.kept ((hE.alloc _).alloc _) hg2 (own_type hE hI (by decide))
                have hlow := fun j hj => (World.ownsRow.lt hI j hj).2
                have hb2 : w2.heap[wr.heap.size]? = some (.cells #[.int .i64 0, .int .i64 e.second, .int .i64 e.third, .bool false] 56) := by
                  rw [hg2.block wr.heap.size (by simp; omega) (fun c => by have := hlow wr.heap.size c.symm; omega), Below.heap_alloc _ _ _ (by simp)]; exact HBLK.out
                have hbw2 : Below w.heap.size w w2 := Below.grown ((hbw.alloc hbw.size _).alloc (hbw.alloc hbw.size _).size _) hg2 ((hbw.alloc hbw.size _).alloc (hbw.alloc hbw.size _).size _).size (fun j hj => (World.ownsRow.lt hI j hj).1)
                have d0 := cell_of_row _ _ 0 _ _ _ hb2
                have d1 := cell_of_row _ _ 1 _ _ _ hb2
                have d2 := cell_of_row _ _ 2 _ _ _ hb2
                have d3 := cell_of_row _ _ 3 _ _ _ hb2
                have hsz2 := hbw2.size
                have HI2 : Hid (Ints _ _ _ _) := hI2
                have HB2 : Hid (Below _ _ _) := hbw2
                clear ho2 hg2 hb2 HBLK hlow hI hE hI2 hbw2 a0 a1 a2 a3
                unfold Elems at hE2
                go_wp2_with (at_builtin; refine wpList_append_own _ rfl _ _ 60 rfl w.heap.size 56 i1 _ 4 32 Tryd.underlying60 hi1 hz1 hs1 hy1 rfl (by decide) _ _ _ rfl (hE2.alloc _) ⟨w2.heap.size, 0, none⟩ 1 1 (elC (⟨0, e.second, e.third, false⟩ : El)) rfl rfl (cells4_at _ _ (⟨0, e.second, e.third, false⟩ : El) _ (by simp)) ?hone (by unfold maxLen; omega) (by omega) (by simp; omega) ?_)
                case hone =>
                  intro u hu
                  simp [elC] at hu
                  rcases hu with rfl | rfl | rfl | rfl <;> rfl
                intro v7' w3 ho3 hg3 _
                have hE3 : Elems w3 w.heap.size v7' (xs ++ [(⟨0, e.second, e.third, false⟩ : El)]) := Elems.snoc ho3
                have hI3 : Ints w3 w.heap.size v6' (fs ++ [65535]) := World.ownsRow.kept (World.ownsRow.alloc HI2.out _) hg3 (own_type HI2.out hE2 (by decide))
                have hbw3 : Below w.heap.size w w3 := Below.grown (HB2.out.alloc HB2.out.size _) hg3 (HB2.out.alloc HB2.out.size _).size (fun j hj => (World.ownsRow.lt hE2 j hj).1)
                have HE3 : Hid (Elems _ _ _ _) := hE3
                have HI3 : Hid (Ints _ _ _ _) := hI3
                have HB3 : Hid (Below _ _ _) := hbw3
                clear ho3 hg3 hE3 hI3 hbw3 HI2 HB2 d0 d1 d2 d3 hE2
                go_wp2
                exact ⟨⟨k + 1, _, _, false, hlt, by go_num, rfl, HS2.out, HI3.out, HE3.out, HB3.out⟩, by simp [intOf]; omega⟩
            · rw [four1_gone hv h0] at hS2
              have HS2 : Hid _ := hS2
              clear hS2
              have hblk : (wr.alloc (.cells #[.int .i64 0, .int .i64 0, .int .i64 0, .bool false] 56)).heap[wr.heap.size]? = some (.cells #[.int .i64 0, .int .i64 0, .int .i64 0, .bool false] 56) := heap_alloc_new wr _
              have HBLK : Hid _ := hblk
              clear hblk
              go_wp2_with (at_builtin; refine wpList_append_own _ rfl _ _ 34 rfl w.heap.size 3 i0 (.int .i64 0) 1 8 Tryd.underlying34 hi0 hz0 hs0 hy0 rfl (by decide) _ _ _ rfl ((hI.alloc _).alloc _) ⟨wr.heap.size + 1, 0, none⟩ 1 1 [.int .i64 0] rfl rfl (cells1_at _ _ _ _ (by simp)) (fun u hu => by simp at hu; subst hu; rfl) (by unfold maxLen; omega) (by omega) (by simp; omega) ?_)
              intro v6' w2 ho2 hg2 _
              have hI2 : Ints w2 w.heap.size v6' (fs ++ [0]) := Ints.snoc ho2
              have hE2 : Elems w2 w.heap.size u7 xs := World.ownsRow.kept ((hE.alloc _).alloc _) hg2 (own_type hE hI (by decide))
              have hlow := fun j hj => (World.ownsRow.lt hI j hj).2
              have hb2 : w2.heap[wr.heap.size]? = some (.cells #[.int .i64 0, .int .i64 0, .int .i64 0, .bool false] 56) := by
                rw [hg2.block wr.heap.size (by simp; omega) (fun c => by have := hlow wr.heap.size c.symm; omega), Below.heap_alloc _ _ _ (by simp)]; exact HBLK.out
              have hbw2 : Below w.heap.size w w2 := Below.grown ((hbw.alloc hbw.size _).alloc (hbw.alloc hbw.size _).size _) hg2 ((hbw.alloc hbw.size _).alloc (hbw.alloc hbw.size _).size _).size (fun j hj => (World.ownsRow.lt hI j hj).1)
              have d0 := cell_of_row _ _ 0 _ _ _ hb2
              have d1 := cell_of_row _ _ 1 _ _ _ hb2
              have d2 := cell_of_row _ _ 2 _ _ _ hb2
              have d3 := cell_of_row _ _ 3 _ _ _ hb2
              have hsz2 := hbw2.size
              have HI2 : Hid (Ints _ _ _ _) := hI2
              have HB2 : Hid (Below _ _ _) := hbw2
              clear ho2 hg2 hb2 HBLK hlow hI hE hI2 hbw2 a0 a1 a2 a3
              unfold Elems at hE2
              go_wp2_with (at_builtin; refine wpList_append_own _ rfl _ _ 60 rfl w.heap.size 56 i1 _ 4 32 Tryd.underlying60 hi1 hz1 hs1 hy1 rfl (by decide) _ _ _ rfl (hE2.alloc _) ⟨w2.heap.size, 0, none⟩ 1 1 (elC elZ) rfl rfl (cells4_at _ _ elZ _ (by simp)) ?hone (by unfold maxLen; omega) (by omega) (by simp; omega) ?_)
              case hone =>
                intro u hu
                simp [elC] at hu
                rcases hu with rfl | rfl | rfl | rfl <;> rfl
              intro v7' w3 ho3 hg3 _
              have hE3 : Elems w3 w.heap.size v7' (xs ++ [elZ]) := Elems.snoc ho3
              have hI3 : Ints w3 w.heap.size v6' (fs ++ [0]) := World.ownsRow.kept (World.ownsRow.alloc HI2.out _) hg3 (own_type HI2.out hE2 (by decide))
              have hbw3 : Below w.heap.size w w3 := Below.grown (HB2.out.alloc HB2.out.size _) hg3 (HB2.out.alloc HB2.out.size _).size (fun j hj => (World.ownsRow.lt hE2 j hj).1)
              have HE3 : Hid (Elems _ _ _ _) := hE3
              have HI3 : Hid (Ints _ _ _ _) := hI3
              have HB3 : Hid (Below _ _ _) := hbw3
              clear ho3 hg3 hE3 hI3 hbw3 HI2 HB2 d0 d1 d2 d3 hE2
              go_wp2
              exact ⟨⟨k + 1, _, _, true, hlt, by go_num, rfl, HS2.out, HI3.out, HE3.out, HB3.out⟩, by simp [intOf]; omega⟩
          · rw [four1_first hv h0] at hS2
            have HS2 : Hid _ := hS2
            have h0' : (e.first == 0) = false := by simpa using h0
            clear hS2
            have he2 : e = ⟨e.first, e.second, e.third, false⟩ := by cases e; simp_all
            rw [he2] at HS2
            clear he2
            have hblk : (wr.alloc (.cells #[.int .i64 e.first, .int .i64 e.second, .int .i64 e.third, .bool false] 56)).heap[wr.heap.size]? = some (.cells #[.int .i64 e.first, .int .i64 e.second, .int .i64 e.third, .bool false] 56) := heap_alloc_new wr _
            have HBLK : Hid _ := hblk
            clear hblk
            go_wp2_with (at_builtin; refine wpList_append_own _ rfl _ _ 34 rfl w.heap.size 3 i0 (.int .i64 0) 1 8 Tryd.underlying34 hi0 hz0 hs0 hy0 rfl (by decide) _ _ _ rfl ((hI.alloc _).alloc _) ⟨wr.heap.size + 1, 0, none⟩ 1 1 [.int .i64 65535] rfl rfl (cells1_at _ _ _ _ (by simp)) (fun u hu => by simp at hu; subst hu; rfl) (by unfold maxLen; omega) (by omega) (by simp; omega) ?_)
            intro v6' w2 ho2 hg2 _
            have hI2 : Ints w2 w.heap.size v6' (fs ++ [65535]) := Ints.snoc ho2
            have hE2 : Elems w2 w.heap.size u7 xs := World.ownsRow.kept ((hE.alloc _).alloc _) hg2 (own_type hE hI (by decide))
            have hlow := fun j hj => (World.ownsRow.lt hI j hj).2
            have hb2 : w2.heap[wr.heap.size]? = some (.cells #[.int .i64 e.first, .int .i64 e.second, .int .i64 e.third, .bool false] 56) := by
              rw [hg2.block wr.heap.size (by simp; omega) (fun c => by have := hlow wr.heap.size c.symm; omega), Below.heap_alloc _ _ _ (by simp)]; exact HBLK.out
            have hbw2 : Below w.heap.size w w2 := Below.grown ((hbw.alloc hbw.size _).alloc (hbw.alloc hbw.size _).size _) hg2 ((hbw.alloc hbw.size _).alloc (hbw.alloc hbw.size _).size _).size (fun j hj => (World.ownsRow.lt hI j hj).1)
            have d0 := cell_of_row _ _ 0 _ _ _ hb2
            have d1 := cell_of_row _ _ 1 _ _ _ hb2
            have d2 := cell_of_row _ _ 2 _ _ _ hb2
            have d3 := cell_of_row _ _ 3 _ _ _ hb2
            have hsz2 := hbw2.size
            have HI2 : Hid (Ints _ _ _ _) := hI2
            have HB2 : Hid (Below _ _ _) := hbw2
            clear ho2 hg2 hb2 HBLK hlow hI hE hI2 hbw2 a0 a1 a2 a3
            unfold Elems at hE2
            go_wp2_with (at_builtin; refine wpList_append_own _ rfl _ _ 60 rfl w.heap.size 56 i1 _ 4 32 Tryd.underlying60 hi1 hz1 hs1 hy1 rfl (by decide) _ _ _ rfl (hE2.alloc _) ⟨w2.heap.size, 0, none⟩ 1 1 (elC (⟨e.first, e.second, e.third, false⟩ : El)) rfl rfl (cells4_at _ _ (⟨e.first, e.second, e.third, false⟩ : El) _ (by simp)) ?hone (by unfold maxLen; omega) (by omega) (by simp; omega) ?_)
            case hone =>
              intro u hu
              simp [elC] at hu
              rcases hu with rfl | rfl | rfl | rfl <;> rfl
            intro v7' w3 ho3 hg3 _
            have hE3 : Elems w3 w.heap.size v7' (xs ++ [(⟨e.first, e.second, e.third, false⟩ : El)]) := Elems.snoc ho3
            have hI3 : Ints w3 w.heap.size v6' (fs ++ [65535]) := World.ownsRow.kept (World.ownsRow.alloc HI2.out _) hg3 (own_type HI2.out hE2 (by decide))
            have hbw3 : Below w.heap.size w w3 := Below.grown (HB2.out.alloc HB2.out.size _) hg3 (HB2.out.alloc HB2.out.size _).size (fun j hj => (World.ownsRow.lt hE2 j hj).1)
            have HE3 : Hid (Elems _ _ _ _) := hE3
            have HI3 : Hid (Ints _ _ _ _) := hI3
            have HB3 : Hid (Below _ _ _) := hbw3
            clear ho3 hg3 hE3 hI3 hbw3 HI2 HB2 d0 d1 d2 d3 hE2
            go_wp2
            exact ⟨⟨k + 1, _, _, false, hlt, by go_num, rfl, HS2.out, HI3.out, HE3.out, HB3.out⟩, by simp [intOf]; omega⟩
        · rw [hv] at a3
          rw [four1_var hv] at hS2
          have HS2 : Hid _ := hS2
          clear hS2
          have hblk : (wr.alloc (.cells #[.int .i64 0, .int .i64 0, .int .i64 0, .bool false] 56)).heap[wr.heap.size]? = some (.cells #[.int .i64 0, .int .i64 0, .int .i64 0, .bool false] 56) := heap_alloc_new wr _
          have HBLK : Hid _ := hblk
          clear hblk
          go_wp2_with (at_builtin; refine wpList_append_own _ rfl _ _ 34 rfl w.heap.size 3 i0 (.int .i64 0) 1 8 Tryd.underlying34 hi0 hz0 hs0 hy0 rfl (by decide) _ _ _ rfl ((hI.alloc _).alloc _) ⟨wr.heap.size + 1, 0, none⟩ 1 1 [.int .i64 e.first] rfl rfl (cells1_at _ _ _ _ (by simp)) (fun u hu => by simp at hu; subst hu; rfl) (by unfold maxLen; omega) (by omega) (by simp; omega) ?_)
          intro v6' w2 ho2 hg2 _
          have hI2 : Ints w2 w.heap.size v6' (fs ++ [e.first]) := Ints.snoc ho2
          have hE2 : Elems w2 w.heap.size u7 xs := World.ownsRow.kept ((hE.alloc _).alloc _) hg2 (own_type hE hI (by decide))
          have hlow := fun j hj => (World.ownsRow.lt hI j hj).2
          have hb2 : w2.heap[wr.heap.size]? = some (.cells #[.int .i64 0, .int .i64 0, .int .i64 0, .bool false] 56) := by
            rw [hg2.block wr.heap.size (by simp; omega) (fun c => by have := hlow wr.heap.size c.symm; omega), Below.heap_alloc _ _ _ (by simp)]; exact HBLK.out
          have hbw2 : Below w.heap.size w w2 := Below.grown ((hbw.alloc hbw.size _).alloc (hbw.alloc hbw.size _).size _) hg2 ((hbw.alloc hbw.size _).alloc (hbw.alloc hbw.size _).size _).size (fun j hj => (World.ownsRow.lt hI j hj).1)
          have d0 := cell_of_row _ _ 0 _ _ _ hb2
          have d1 := cell_of_row _ _ 1 _ _ _ hb2
          have d2 := cell_of_row _ _ 2 _ _ _ hb2
          have d3 := cell_of_row _ _ 3 _ _ _ hb2
          have hsz2 := hbw2.size
          have HI2 : Hid (Ints _ _ _ _) := hI2
          have HB2 : Hid (Below _ _ _) := hbw2
          clear ho2 hg2 hb2 HBLK hlow hI hE hI2 hbw2 a0 a1 a2 a3
          unfold Elems at hE2
          go_wp2_with (at_builtin; refine wpList_append_own _ rfl _ _ 60 rfl w.heap.size 56 i1 _ 4 32 Tryd.underlying60 hi1 hz1 hs1 hy1 rfl (by decide) _ _ _ rfl (hE2.alloc _) ⟨w2.heap.size, 0, none⟩ 1 1 (elC elZ) rfl rfl (cells4_at _ _ elZ _ (by simp)) ?hone (by unfold maxLen; omega) (by omega) (by simp; omega) ?_)
          case hone =>
            intro u hu
            simp [elC] at hu
            rcases hu with rfl | rfl | rfl | rfl <;> rfl
          intro v7' w3 ho3 hg3 _
          have hE3 : Elems w3 w.heap.size v7' (xs ++ [elZ]) := Elems.snoc ho3
          have hI3 : Ints w3 w.heap.size v6' (fs ++ [e.first]) := World.ownsRow.kept (World.ownsRow.alloc HI2.out _) hg3 (own_type HI2.out hE2 (by decide))
          have hbw3 : Below w.heap.size w w3 := Below.grown (HB2.out.alloc HB2.out.size _) hg3 (HB2.out.alloc HB2.out.size _).size (fun j hj => (World.ownsRow.lt hE2 j hj).1)
          have HE3 : Hid (Elems _ _ _ _) := hE3
          have HI3 : Hid (Ints _ _ _ _) := hI3
          have HB3 : Hid (Below _ _ _) := hbw3
          clear ho3 hg3 hE3 hI3 hbw3 HI2 HB2 d0 d1 d2 d3 hE2
          go_wp2
          exact ⟨⟨k + 1, _, _, true, hlt, by go_num, rfl, HS2.out, HI3.out, HE3.out, HB3.out⟩, by simp [intOf]; omega⟩
    · have hk3 : k = es.length := by omega
      subst hk3
      have HF1 : Hid (fourths sh es = fs ∧ counted sh es = xs) := by
        show _ ∧ _
        unfold fourths counted
        rw [HF.out]
        exact ⟨rfl, rfl⟩
      clear HF hL
      go_wp2
      go_ret2
      rw [HF1.out.1, HF1.out.2]
      exact ⟨_, _, rfl, hI, hE, hbw⟩

set_option maxRecDepth 100000 in
set_option maxHeartbeats 1000000 in
theorem fourth_none (w : World) (a : Option Addr) (c : Nat) (sh : Bool) :
    Calls Tryd.prog 49 #[.slice a 0 c, .bool sh] w fun e w' => ∃ v v', e = .returned (.tuple #[v, v']) ∧ Ints w' w.heap.size v [] ∧ Elems w' w.heap.size v' [] ∧ Below w.heap.size w w' := by
  go_enter Tryd.func49, Tryd.ntmps49
  go_wp2
  go_loop [6, 7, 8, 14] (fun v6 v7 bv iv => v6 = .slice none 0 0 ∧ v7 = .slice none 0 0 ∧ bv = .bool false ∧ iv = .int .i64 0) (fun _ _ _ _ => 0)
  case atStart => exact ⟨rfl, rfl, rfl, rfl⟩
  case round =>
    obtain ⟨rfl, rfl, rfl, rfl⟩ := hrel
    go_wp2
    go_ret2
    exact ⟨_, _, rfl, World.ownsRow_nil _ _ _ _, World.ownsRow_nil _ _ _ _, Below.refl _ _⟩

theorem fourth_any {w : World} {B : Nat} {v : Value} {es : List El} (sh : Bool) (hz : es.length ≤ 1048576) (hL : Elems w B v es) :
    Calls Tryd.prog 49 #[v, .bool sh] w fun e w' => ∃ v v', e = .returned (.tuple #[v, v']) ∧ Ints w' w.heap.size v (fourths sh es) ∧ Elems w' w.heap.size v' (counted sh es) ∧ Below w.heap.size w w' := by
  rcases hL.form with ⟨rfl, rfl⟩ | ⟨g, cap, rfl, _, _⟩
  · exact fourth_none w _ _ sh
  · exact fourth_row w B g cap es sh hz hL
end Go.Proofs.YtanfebccenfffagDoor

namespace Go.Proofs.YtanfebccenfffagDoor
open Go.RowKit

theorem ents_slice {w : World} {B : Nat} {v : Value} {es : List Ent} (h : Ents w B v es) : ∃ a c, v = .slice a es.length c := by
  rcases h.form with ⟨rfl, rfl⟩ | ⟨_, _, rfl, _, _, _, _⟩
  · exact ⟨_, _, rfl⟩
  · exact ⟨_, _, rfl⟩

/-- The rules' block, of a call's own. -/
def BoxS (u : World) (b : Nat) (v : Value) (sh : Bool) (lv : Int) : Prop := u.heap[b]? = some (.cells #[v, .bool sh, .int .i64 lv] 30)
theorem BoxS.below {B b : Nat} {u u' : World} {v : Value} {sh : Bool} {lv : Int} (h : BoxS u b v sh lv) (hb : Below B u u') (hlt : b < B) : BoxS u' b v sh lv := (hb.block b hlt).trans h
theorem BoxS.cells {b : Nat} {u : World} {v : Value} {sh : Bool} {lv : Int} (h : BoxS u b v sh lv) : u.cell? ⟨b, 0, none⟩ = some v ∧ u.cell? ⟨b, 1, none⟩ = some (.bool sh) ∧ u.cell? ⟨b, 2, none⟩ = some (.int .i64 lv) :=
  ⟨cell_of_row _ _ 0 _ _ _ h, cell_of_row _ _ 1 _ _ _ h, cell_of_row _ _ 2 _ _ _ h⟩

/-- The rules' block and what has grown. -/
def BoxW (w0 : World) (b : Nat) (v : Value) (sh : Bool) (lv : Int) (u : World) : Prop := u.cell? ⟨b, 0, none⟩ = some v ∧ u.cell? ⟨b, 1, none⟩ = some (.bool sh) ∧ u.cell? ⟨b, 2, none⟩ = some (.int .i64 lv) ∧ b < w0.heap.size ∧ Below w0.heap.size w0 u

theorem BoxW.keep {w0 u u' : World} {b : Nat} {v : Value} {sh : Bool} {lv : Int} (hb : Below u.heap.size u u')
    (h : u.cell? ⟨b, 0, none⟩ = some v ∧ u.cell? ⟨b, 1, none⟩ = some (.bool sh) ∧ u.cell? ⟨b, 2, none⟩ = some (.int .i64 lv) ∧ b < w0.heap.size ∧ Below w0.heap.size w0 u) :
    u'.cell? ⟨b, 0, none⟩ = some v ∧ u'.cell? ⟨b, 1, none⟩ = some (.bool sh) ∧ u'.cell? ⟨b, 2, none⟩ = some (.int .i64 lv) ∧ b < w0.heap.size ∧ Below w0.heap.size w0 u' := by
  obtain ⟨h0, h1, h2, h3, h4⟩ := h
  have hlt : b < u.heap.size := Nat.lt_of_lt_of_le h3 h4.size
  exact ⟨(hb.cell hlt).trans h0, (hb.cell hlt).trans h1, (hb.cell hlt).trans h2, h3, h4.trans (hb.mono h4.size)⟩

theorem els_sliceS {w : World} {B : Nat} {v : Value} {es : List El} (h : Elems w B v es) :
    ∃ a c, v = .slice a es.length c ∧ ∀ k e, es[k]? = some e → ∃ g, a = some ⟨g, 0, none⟩ ∧ g < w.heap.size ∧ w.cell? ⟨g, k * 4, none⟩ = some (.int .i64 e.first) ∧ w.cell? ⟨g, k * 4 + 1, none⟩ = some (.int .i64 e.second) ∧ w.cell? ⟨g, k * 4 + 2, none⟩ = some (.int .i64 e.third) ∧ w.cell? ⟨g, k * 4 + 3, none⟩ = some (.bool e.varies) := by
  rcases h.form with ⟨rfl, rfl⟩ | ⟨g, cap, rfl, _, _⟩
  · exact ⟨_, _, rfl, fun k e he => by simp at he⟩
  · exact ⟨_, _, rfl, fun k e he => ⟨g, rfl, (World.ownsRow.lt h g rfl).2, h.cells k e he⟩⟩

theorem ints_sliceS {w : World} {B : Nat} {v : Value} {l : List Int} (h : Ints w B v l) :
    ∃ a c, v = .slice a l.length c ∧ ∀ k, k < l.length → ∃ g, a = some ⟨g, 0, none⟩ ∧ g < w.heap.size ∧ w.cell? ⟨g, k, none⟩ = some (.int .i64 (at0 l k)) := by
  rcases h.form with ⟨rfl, rfl⟩ | ⟨g, cap, rfl, _, _⟩
  · exact ⟨_, _, rfl, fun k hk => by simp at hk⟩
  · exact ⟨_, _, rfl, fun k hk => ⟨g, rfl, (World.ownsRow.lt h g rfl).2, h.cell k hk⟩⟩

theorem elAt_at {xs : List El} {k : Nat} {e : El} (h : xs[k]? = some e) : elAt xs k = e := by unfold elAt; rw [h]; rfl

end Go.Proofs.YtanfebccenfffagDoor

namespace Go.Proofs.YtanfebccenfffagDoor
open Go.RowKit

def FiRel (W : World) (xs : List El) (fs : List Int) (v7 i : Value) (wr : World) : Prop :=
  ∃ k : Nat, k ≤ xs.length ∧ i = .int .i64 k ∧ Ints wr W.heap.size v7 (wtsK 1 xs fs k) ∧ Below W.heap.size W wr

set_option maxRecDepth 100000 in
set_option maxHeartbeats 4000000 in
theorem firsts4_any {w : World} {B B' : Nat} {v vl : Value} {es : List Ent} {sh : Bool} {lv : Int} {l : List Int} (hE : Ents w B v es) (hn : es.length ≤ 1048576) (hr : ∀ e ∈ es, e.runes.length ≤ 1048576)
    (hL : Ints w B' vl l) (hl : l.length ≤ 200) (hg : ∀ x ∈ l, 0 ≤ x ∧ x ≤ 1114111) :
    Calls Tryd.prog 32 #[.agg #[v, .bool sh, .int .i64 lv], vl] w fun e w' => ∃ v', e = .returned v' ∧ Ints w' w.heap.size v' (firstsB es sh l) ∧ Below w.heap.size w w' := by
  obtain ⟨va, vc, rfl⟩ := ents_slice hE
  obtain ⟨al, cl, rfl⟩ := lenS_form hL
  obtain ⟨i0, hi0, hz0, hs0, hy0⟩ := info_parts info_int
  have hbx : Below w.heap.size w (w.alloc (.cells #[.slice va es.length vc, .bool sh, .int .i64 lv] 30)) := (Below.refl _ _).alloc (Nat.le_refl _) _
  have hbox : BoxS (w.alloc (.cells #[.slice va es.length vc, .bool sh, .int .i64 lv] 30)) w.heap.size (.slice va es.length vc) sh lv := heap_alloc_new w _
  have hlb : w.heap.size < (w.alloc (.cells #[.slice va es.length vc, .bool sh, .int .i64 lv] 30)).heap.size := by simp
  have EL := fun (u : World) (hu : Below (w.alloc (.cells #[.slice va es.length vc, .bool sh, .int .i64 lv] 30)).heap.size (w.alloc (.cells #[.slice va es.length vc, .bool sh, .int .i64 lv] 30)) u) => elems4S_any (sh := sh) (lv := lv) ((hE.below hbx).below hu) hn hr ((hL.below hbx).below hu) (by omega) hg
  have hlen := elems4_len es l
  unfold firstsB
  generalize elems4 es l = el at *
  have hel : el.length ≤ 400 := by omega
  have FO := fun (u : World) (B : Nat) (v : Value) (h : Elems u B v el) => fourth_any sh (by omega) h
  have hcl := counted_len sh el
  generalize counted sh el = xs at *
  generalize fourths sh el = fs at *
  have hxl : xs.length ≤ 400 := by omega
  clear hE hL hr hg hlen hcl
  obtain ⟨W0, HW0⟩ : ∃ W0, Hid (W0 = w.alloc (.cells #[.slice va es.length vc, .bool sh, .int .i64 lv] 30)) := ⟨_, rfl⟩
  rw [← HW0.out] at hbx hbox hlb EL
  obtain ⟨c0, c1, c2⟩ := hbox.cells
  have hS : W0.cell? ⟨w.heap.size, 0, none⟩ = some (.slice va es.length vc) ∧ W0.cell? ⟨w.heap.size, 1, none⟩ = some (.bool sh) ∧ W0.cell? ⟨w.heap.size, 2, none⟩ = some (.int .i64 lv) ∧ w.heap.size < W0.heap.size ∧ Below W0.heap.size W0 W0 := ⟨c0, c1, c2, hlb, Below.refl _ _⟩
  have hS2 := BoxW.keep ((Below.refl W0.heap.size W0).drew) hS
  have EL2 := fun (u : World) (hu : u.cell? ⟨w.heap.size, 0, none⟩ = some (.slice va es.length vc) ∧ u.cell? ⟨w.heap.size, 1, none⟩ = some (.bool sh) ∧ u.cell? ⟨w.heap.size, 2, none⟩ = some (.int .i64 lv) ∧ w.heap.size < W0.heap.size ∧ Below W0.heap.size W0 u) => EL u hu.2.2.2.2
  clear EL hbox
  go_enter Tryd.func32, Tryd.ntmps32
  go_wp2_with fail
  rw [← HW0.out]
  clear HW0
  go_region_held (fun u => u.cell? ⟨w.heap.size, 0, none⟩ = some (.slice va es.length vc) ∧ u.cell? ⟨w.heap.size, 1, none⟩ = some (.bool sh) ∧ u.cell? ⟨w.heap.size, 2, none⟩ = some (.int .i64 lv) ∧ w.heap.size < W0.heap.size ∧ Below W0.heap.size W0 u)
    (first | exact hS2 | exact BoxW.keep (by assumption) (by assumption))
    (first | (go_at_call 50; refine (EL2 _ (by assumption)).mono ?_; rintro e w' ⟨vE, rfl, hEl, hbw⟩; obtain ⟨aE, cE, rfl⟩ := (show ∃ a c, vE = .slice a el.length c by obtain ⟨h, _⟩ | ⟨g, cap, h, _⟩ := hEl.form <;> (first | exact ⟨_, _, h⟩ | (rename_i h2; subst h2; exact ⟨_, _, h⟩)))) | (go_at_call 49; refine (FO _ _ _ (by assumption)).mono ?_; rintro e w' ⟨v5, v6, rfl, hI5, hE6, hbw⟩))
  all_goals
    obtain ⟨_, _, _, _, hbW⟩ := (show w'.cell? ⟨w.heap.size, 0, none⟩ = _ ∧ _ ∧ _ ∧ _ ∧ Below W0.heap.size W0 w' by assumption)
    have HBW : Hid (Below w.heap.size w w') := hbx.trans (hbW.mono hbx.size)
    obtain ⟨fa, fc, rfl, _⟩ := ints_sliceS hI5
    obtain ⟨xa, xc, rfl, hcE⟩ := els_sliceS hE6
    have HCE : Hid _ := hcE
    obtain ⟨W, HWW⟩ : ∃ W, Hid (W = w') := ⟨_, rfl⟩
    have hWW := HWW.out
    subst hWW
    clear hcE hI5 hE6 hbW hS hS2 EL2 FO c0 c1 c2 hbx hlb HWW
    try clear hEl
    try clear hbw
    go_wp2_with fail
    go_loopw [7, 21] (fun v7 i wr => FiRel W xs fs v7 i wr) (fun _ i _ => xs.length - (intOf i).toNat)
    case atStart => exact ⟨0, by omega, rfl, World.ownsRow_nil _ _ _ _, Below.refl _ _⟩
    case round =>
      obtain ⟨k, hk, rfl, hK, hbw⟩ := hrel
      have hwl := wtsK_len 1 xs fs k
      by_cases hlk : k < xs.length
      · obtain ⟨e, he⟩ : ∃ e, xs[k]? = some e := ⟨_, List.getElem?_eq_getElem hlk⟩
        obtain ⟨ge, rfl, hgl, y0, y1, y2, y3⟩ := HCE.out k e he
        have hk8 : (k : Int) < (xs.length : Int) := by omega
        have a0 : wr.cell? ⟨ge, k * 4, none⟩ = some (.int .i64 e.first) := (hbw.cell (p := ⟨ge, k * 4, none⟩) hgl).trans y0
        have a1 : wr.cell? ⟨ge, k * 4 + 1, none⟩ = some (.int .i64 e.second) := (hbw.cell (p := ⟨ge, k * 4 + 1, none⟩) hgl).trans y1
        have a2 : wr.cell? ⟨ge, k * 4 + 2, none⟩ = some (.int .i64 e.third) := (hbw.cell (p := ⟨ge, k * 4 + 2, none⟩) hgl).trans y2
        have a3 : wr.cell? ⟨ge, k * 4 + 3, none⟩ = some (.bool e.varies) := (hbw.cell (p := ⟨ge, k * 4 + 3, none⟩) hgl).trans y3
        have HX : Hid (wtL 1 (elAt xs k) (at0 fs k) = e.first) := by show _ = _; rw [elAt_at he]; rfl
        have hsz3 := hbw.size
        have hba := hbw.alloc hbw.size (.cells #[.int .i64 e.first, .int .i64 e.second, .int .i64 e.third, .bool e.varies] 56)
        clear y0 y1 y2 y3 he hgl
        by_cases hX0 : e.first = 0
        · have HT : Hid (wtsK 1 xs fs (k + 1) = wtsK 1 xs fs k) := by show _ = _; rw [wtsK, ifNot_zero (HX.out.trans hX0), List.append_nil]
          have HK4 : Hid (Ints _ _ _ _) := World.ownsRow.alloc hK (.cells #[.int .i64 e.first, .int .i64 e.second, .int .i64 e.third, .bool e.varies] 56)
          have HBA : Hid (Below _ _ _) := hba
          clear hK HX hba hbw
          obtain ⟨x0, x1, x2, x3⟩ := e
          simp only at a0 a1 a2 a3 hX0 HK4 HBA
          subst hX0
          go_wp2
          exact ⟨⟨k + 1, by omega, by go_num, by rw [HT.out]; exact HK4.out, HBA.out⟩, by simp [intOf]; omega⟩
        · have hX0' : (e.first == 0) = false := by simpa using hX0
          have HT : Hid (wtsK 1 xs fs (k + 1) = wtsK 1 xs fs k ++ [e.first]) := by
            show _ = _
            rw [wtsK, HX.out, ifNot_some hX0]
          have hK2 := World.ownsRow.alloc hK (.cells #[.int .i64 e.first, .int .i64 e.second, .int .i64 e.third, .bool e.varies] 56)
          clear hK HX
          go_wp2_with (at_builtin; refine wpList_append_own _ rfl _ _ 34 rfl W.heap.size 3 i0 (.int .i64 0) 1 8 Tryd.underlying34 hi0 hz0 hs0 hy0 rfl (by decide) _ _ _ rfl (hK2.alloc _) ⟨wr.heap.size + 1, 0, none⟩ 1 1 [.int .i64 e.first] rfl rfl (cells1_at _ _ _ _ (by simp)) (fun u hu => by simp at hu; subst hu; rfl) (by unfold maxLen; omega) (by omega) (by simp; omega) ?_)
          intro v6 w4 ho4 hg4 _
          have hI4 : Ints w4 W.heap.size v6 (wtsK 1 xs fs k ++ [e.first]) := Ints.snoc ho4
          have hb4 : Below W.heap.size W w4 := Below.grown (hba.alloc hba.size _) hg4 (hba.alloc hba.size _).size (fun j hj => (World.ownsRow.lt hK2 j hj).1)
          have HI4 : Hid (Ints _ _ _ _) := hI4
          clear ho4 hg4 hK2 hI4 hba hbw
          go_wp2
          exact ⟨⟨k + 1, by omega, by go_num, by rw [HT.out]; exact HI4.out, hb4⟩, by simp [intOf]; omega⟩
      · have hk3 : k = xs.length := by omega
        subst hk3
        have HR : Hid (Ints _ _ _ _) := hK
        clear hK
        go_wp2
        go_ret
        exact ⟨_, rfl, ints_low2 HR.out HBW.out.size, HBW.out.trans (hbw.mono HBW.out.size)⟩

set_option maxRecDepth 100000 in
set_option maxHeartbeats 4000000 in
theorem specFirsts_any {w : World} {B : Nat} {ve : Value} {es : List Ent} {sh : Bool} {lv : Int} (x : ByteArray) (hx : x.size ≤ 1048576) (hE : Ents w B ve es) (hr : ∀ e ∈ es, e.runes.length ≤ 1048576) :
    Calls Tryd.prog 19 #[.agg #[ve, .bool sh, .int .i64 lv], .string x] w fun e w' => ∃ v', e = .returned (.tuple #[v', .bool (okE es lv x)]) ∧ Ints w' w.heap.size v' (firsT es sh lv x) ∧ Below w.heap.size w w' := by
  obtain ⟨va, vc, rfl⟩ := ents_slice hE
  have hbx : Below w.heap.size w (w.alloc (.cells #[.slice va es.length vc, .bool sh, .int .i64 lv] 30)) := (Below.refl _ _).alloc (Nat.le_refl _) _
  have hbox : BoxS (w.alloc (.cells #[.slice va es.length vc, .bool sh, .int .i64 lv] 30)) w.heap.size (.slice va es.length vc) sh lv := heap_alloc_new w _
  have hlb : w.heap.size < (w.alloc (.cells #[.slice va es.length vc, .bool sh, .int .i64 lv] 30)).heap.size := by simp
  have AT := runes4_any x (w.alloc (.cells #[.slice va es.length vc, .bool sh, .int .i64 lv] 30)) (by omega)
  have HE : Hid (Ents _ _ _ _) := hE.below hbx
  have GR := fun (u : World) (hu : Below (w.alloc (.cells #[.slice va es.length vc, .bool sh, .int .i64 lv] 30)).heap.size (w.alloc (.cells #[.slice va es.length vc, .bool sh, .int .i64 lv] 30)) u) => good3_any (sh := sh) (lv := lv) (HE.out.below hu) hr
  have hrg := rn4_rng x
  unfold firsT okE
  clear hE
  cases hok : ok4 x
  · rw [hok] at AT
    rw [Bool.false_and, if_neg (by simp)]
    clear hok GR
    go_enter Tryd.func19, Tryd.ntmps19
    go_wp2_with fail
    refine AT.mono ?_
    rintro e w1 ⟨v1, rfl, i1, b1⟩
    clear AT i1
    go_wp2
    go_ret2
    exact ⟨_, rfl, ⟨rfl, .inl ⟨rfl, rfl⟩⟩, hbx.trans (b1.mono hbx.size)⟩
  · obtain ⟨hs, hl⟩ := ok4_parts hok
    rw [hok] at AT
    rw [Bool.true_and]
    clear hok
    generalize rn4 x = rs at *
    cases hro : rulesOk es lv
    · rw [hro] at GR
      rw [if_neg (by simp)]
      clear hro
      go_enter Tryd.func19, Tryd.ntmps19
      go_wp2_with fail
      refine AT.mono ?_
      rintro e w1 ⟨v1, rfl, i1, b1⟩
      have G1 := GR _ b1
      obtain ⟨c0, c1, c2⟩ := (hbox.below b1 hlb).cells
      have hsz1 := b1.size
      clear AT GR hbox i1
      go_wp2_with fail
      refine G1.mono ?_
      rintro e w2 ⟨rfl, b2⟩
      clear G1
      have b3 := hbx.trans ((b1.trans (b2.mono b1.size)).mono hbx.size)
      go_wp2
      go_ret2
      exact ⟨_, rfl, ⟨rfl, .inl ⟨rfl, rfl⟩⟩, b3⟩
    · rw [hro] at GR
      rw [if_pos rfl]
      have hne : es.length ≤ 1048576 := by have := (rulesOk_parts hro).1; omega
      clear hro
      go_enter Tryd.func19, Tryd.ntmps19
      go_wp2_with fail
      refine AT.mono ?_
      rintro e w1 ⟨v1, rfl, i1, b1⟩
      have G1 := GR _ b1
      have hbox1 := hbox.below b1 hlb
      obtain ⟨c0, c1, c2⟩ := hbox1.cells
      have hsz1 := b1.size
      have I1 := i1 hs
      clear AT GR hbox i1
      go_wp2_with fail
      refine G1.mono ?_
      rintro e w2 ⟨rfl, b2⟩
      clear G1 c0 c1 c2
      have b12 := b1.trans (b2.mono b1.size)
      have b3 := hbx.trans (b12.mono hbx.size)
      have E2 := firsts4_any (sh := sh) (lv := lv) (HE.out.below b12) hne hr (I1.below b2) (by omega) hrg
      obtain ⟨c0, c1, c2⟩ := (hbox1.below b2 (by omega)).cells
      clear I1 hbox1
      go_wp2_with fail
      refine E2.mono ?_
      rintro e w3 ⟨v3, rfl, e3, b4⟩
      clear E2 c0 c1 c2
      go_wp2
      go_ret2
      exact ⟨_, rfl, ints_low2 e3 b3.size, b3.trans (b4.mono b3.size)⟩
end Go.Proofs.YtanfebccenfffagDoor

namespace Go.Proofs.YtanfebccenfffagDoor
open Go.RowKit

theorem begL_yes {a b : List Int} (h : b.length ≤ a.length) : begL a b = decide (a.take b.length = b) := by unfold begL; rw [decide_eq_true h, Bool.true_and]
theorem begL_no {a b : List Int} (h : ¬ b.length ≤ a.length) : begL a b = false := by unfold begL; rw [decide_eq_false h, Bool.false_and]

theorem ints_takeS {w : World} {B k n c : Nat} {a : Option Addr} {l : List Int} (h : Ints w B (.slice a n c) l) (hk : k ≤ l.length) : k ≤ c ∧ Ints w B (.slice a k c) (l.take k) := by
  rcases h.form with ⟨h1, h2⟩ | ⟨g, cap, h1, h2, _⟩
  · injection h1 with q1 q2 q3
    subst q1
    subst q3
    subst h2
    have : k = 0 := by simpa using hk
    subst this
    exact ⟨Nat.le_refl _, ⟨rfl, .inl ⟨rfl, rfl⟩⟩⟩
  · injection h1 with q1 q2 q3
    subst q1
    subst q2
    subst q3
    exact ⟨by omega, Ints.take h k hk⟩

set_option maxRecDepth 100000 in
set_option maxHeartbeats 4000000 in
theorem specBegin_any {w : World} {B : Nat} {ve : Value} {es : List Ent} {sh : Bool} {lv : Int} (x : ByteArray) (hx : x.size ≤ 1048576) (y : ByteArray) (hy : y.size ≤ 1048576) (hE : Ents w B ve es) (hr : ∀ e ∈ es, e.runes.length ≤ 1048576) :
    Calls Tryd.prog 7 #[.agg #[ve, .bool sh, .int .i64 lv], .string x, .string y] w fun e w' => e = .returned (.tuple #[.bool (begT es sh lv x y), .bool (okE es lv x && okE es lv y)]) ∧ Below w.heap.size w w' := by
  obtain ⟨va, vc, rfl⟩ := ents_slice hE
  have hbx : Below w.heap.size w (w.alloc (.cells #[.slice va es.length vc, .bool sh, .int .i64 lv] 30)) := (Below.refl _ _).alloc (Nat.le_refl _) _
  have hbox : BoxS (w.alloc (.cells #[.slice va es.length vc, .bool sh, .int .i64 lv] 30)) w.heap.size (.slice va es.length vc) sh lv := heap_alloc_new w _
  have hlb : w.heap.size < (w.alloc (.cells #[.slice va es.length vc, .bool sh, .int .i64 lv] 30)).heap.size := by simp
  have KX := specFirsts_any (sh := sh) (lv := lv) x hx (hE.below hbx) hr
  have KY := fun (u : World) (hu : Below w.heap.size w u) => specFirsts_any (sh := sh) (lv := lv) y hy (hE.below hu) hr
  have HBX : Hid (Below _ _ _) := hbx
  have HBO : Hid (BoxS _ _ _ _ _) := hbox
  have hfa := firsT_len es sh lv x
  have hfb := firsT_len es sh lv y
  have hra := firsT_rng es sh lv x
  have hrb := firsT_rng es sh lv y
  unfold begT
  generalize firsT es sh lv x = fa at *
  generalize firsT es sh lv y = fb at *
  generalize okE es lv x = oa at *
  generalize okE es lv y = ob at *
  clear hE hr hbx hbox
  cases oa
  · rw [Bool.false_and, if_neg (by simp)]
    all_goals
      go_enter Tryd.func7, Tryd.ntmps7
      go_wp2_with fail
      refine KX.mono ?_
      rintro e w1 ⟨v1, rfl, i1, b1⟩
      have hb1 := HBX.out.trans (b1.mono HBX.out.size)
      have K2 := KY _ hb1
      obtain ⟨c0, c1, c2⟩ := (HBO.out.below b1 hlb).cells
      have H1 : Hid (Ints _ _ _ _) := i1
      obtain ⟨a1, k1, rfl⟩ := lenS_form i1
      clear KX KY b1 i1
      go_wp2_with fail
      refine K2.mono ?_
      rintro e w2 ⟨v2, rfl, i2, b2⟩
      have hb2 := hb1.trans (b2.mono hb1.size)
      have j1 := H1.out.below b2
      obtain ⟨a2, k2, rfl⟩ := lenS_form i2
      clear K2 c0 c1 c2 b2 hb1 H1
      clear i2 j1
      go_wp2
      go_ret2
      exact ⟨rfl, hb2⟩
  · cases ob
    · rw [Bool.and_false, if_neg (by simp)]
      go_enter Tryd.func7, Tryd.ntmps7
      go_wp2_with fail
      refine KX.mono ?_
      rintro e w1 ⟨v1, rfl, i1, b1⟩
      have hb1 := HBX.out.trans (b1.mono HBX.out.size)
      have K2 := KY _ hb1
      obtain ⟨c0, c1, c2⟩ := (HBO.out.below b1 hlb).cells
      have H1 : Hid (Ints _ _ _ _) := i1
      obtain ⟨a1, k1, rfl⟩ := lenS_form i1
      clear KX KY b1 i1
      go_wp2_with fail
      refine K2.mono ?_
      rintro e w2 ⟨v2, rfl, i2, b2⟩
      have hb2 := hb1.trans (b2.mono hb1.size)
      have j1 := H1.out.below b2
      obtain ⟨a2, k2, rfl⟩ := lenS_form i2
      clear K2 c0 c1 c2 b2 hb1 H1
      clear i2 j1
      go_wp2
      go_ret2
      exact ⟨rfl, hb2⟩
    · rw [Bool.and_true, if_pos rfl]
      go_enter Tryd.func7, Tryd.ntmps7
      go_wp2_with fail
      refine KX.mono ?_
      rintro e w1 ⟨v1, rfl, i1, b1⟩
      have hb1 := HBX.out.trans (b1.mono HBX.out.size)
      have K2 := KY _ hb1
      obtain ⟨c0, c1, c2⟩ := (HBO.out.below b1 hlb).cells
      have H1 : Hid (Ints _ _ _ _) := i1
      obtain ⟨a1, k1, rfl⟩ := lenS_form i1
      clear KX KY b1 i1
      go_wp2_with fail
      refine K2.mono ?_
      rintro e w2 ⟨v2, rfl, i2, b2⟩
      have hb2 := hb1.trans (b2.mono hb1.size)
      have j1 := H1.out.below b2
      obtain ⟨a2, k2, rfl⟩ := lenS_form i2
      clear K2 c0 c1 c2 b2 hb1 H1
      by_cases hle : fb.length ≤ fa.length
      · have hle8 : (fb.length : Int) ≤ (fa.length : Int) := by omega
        have HBL : Hid (begL fa fb = decide (fa.take fb.length = fb)) := begL_yes hle
        obtain ⟨hk1, hT⟩ : fb.length ≤ k1 ∧ Ints w2 _ (.slice a1 fb.length k1) (fa.take fb.length) := ints_takeS j1 hle
        have hk18 : (fb.length : Int) ≤ (k1 : Int) := by omega
        have SM := same2_any (by rw [List.length_take]; omega) (by omega) hT i2
        clear i2 j1 hT
        go_wp2_with fail
        refine SM.mono ?_
        rintro e w3 ⟨rfl, n3, hw3⟩
        have hb3 : Below w.heap.size w w3 := by rw [hw3]; exact below_drewN hb2 n3
        clear SM hw3
        go_wp2
        go_ret2
        rw [HBL.out]
        exact ⟨rfl, hb3⟩
      · have hle8 : ¬ (fb.length : Int) ≤ (fa.length : Int) := by omega
        have hle9 : decide ((fb.length : Int) ≤ (fa.length : Int)) = false := decide_eq_false hle8
        have HBL : Hid (begL fa fb = false) := begL_no hle
        clear i2 j1
        go_wp2
        go_ret2
        rw [HBL.out]
        exact ⟨rfl, hb2⟩
end Go.Proofs.YtanfebccenfffagDoor
