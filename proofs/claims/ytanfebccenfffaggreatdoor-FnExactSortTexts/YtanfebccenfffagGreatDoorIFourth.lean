/- Contract of the program's FourthOf. -/
import Derived.Test.YtanfebccenfffagGreatDoorIShift
import Derived.Test.YtanfebccenfffagGreatDoorRowKinds
import Derived.Deep.Cut
import Derived.Deep.CutRange
namespace Go.Proofs.YtanfebccenfffagGreatDoor
open Go.RowKit

theorem set4_block {w : World} {n : Nat} {x y z t : Value} {T : TypeId} (h : w.heap[n]? = some (.cells #[x, y, z, t] T)) (a b c d : Value) :
    ((((w.setCell ⟨n, 0, none⟩ a).setCell ⟨n, 1, none⟩ b).setCell ⟨n, 2, none⟩ c).setCell ⟨n, 3, none⟩ d).heap[n]? = some (.cells #[a, b, c, d] T) ∧ w.grownBy ((((w.setCell ⟨n, 0, none⟩ a).setCell ⟨n, 1, none⟩ b).setCell ⟨n, 2, none⟩ c).setCell ⟨n, 3, none⟩ d) (some n) := by
  have h1 := heap_setCell_same w n 0 _ _ a h
  have h2 := heap_setCell_same _ n 1 _ _ b h1
  have h3 := heap_setCell_same _ n 2 _ _ c h2
  have h4 := heap_setCell_same _ n 3 _ _ d h3
  refine ⟨h4, rfl, rfl, rfl, by simp [World.setCell], fun k hk hne => ?_⟩
  have hkn : k ≠ n := fun e => hne (by rw [e])
  rw [heap_setCell_other _ _ k _ hkn, heap_setCell_other _ _ k _ hkn, heap_setCell_other _ _ k _ hkn, heap_setCell_other _ _ k _ hkn]

theorem frozen_row4 {w : World} {n : Nat} {cs : Array Value} {T : TypeId} (h : w.heap[n]? = some (.cells cs T)) (j : Nat) : w.frozen? ⟨n, j, none⟩ = false := by simp [World.frozen?, h]

def FpRel (w : World) (sh : Bool) (es : List El) (v6 v7 bv iv : Value) (wr : World) : Prop :=
  ∃ (k : Nat) (fs : List Int) (xs : List El) (b b' : Bool), k ≤ es.length ∧ iv = .int .i64 k ∧ bv = .bool b ∧ fourS sh es k = (fs, xs, b') ∧ (sh = true → b = b') ∧ Ints wr w.heap.size v6 fs ∧ Elems wr w.heap.size v7 xs ∧ Below w.heap.size w wr

theorem below_grownBy4 {w w' : World} (hb : Below w.heap.size w w') (row : Option Nat) : w.grownBy w' row := ⟨hb.os, hb.tape, hb.output, hb.size, fun k hk _ => hb.block k hk⟩

set_option maxRecDepth 100000 in
set_option maxHeartbeats 8000000 in
theorem implFourth_plain (w : World) (B g cap : Nat) (es : List El) (hz : es.length ≤ 1000) (hL : Elems w B (.slice (some ⟨g, 0, none⟩) es.length cap) es) :
    Calls Tryz.prog 75 #[.slice (some ⟨g, 0, none⟩) es.length cap, .bool false] w fun e w' => ∃ v v', e = .returned (.tuple #[v, v', .bool true]) ∧ Ints w' w.heap.size v (fourths false es) ∧ Elems w' w.heap.size v' (counted false es) ∧ Below w.heap.size w w' := by
  obtain ⟨i0, hi0, hz0, hs0, hy0⟩ := info_parts info_int
  obtain ⟨i1, hi1, hz1, hs1, hy1⟩ := info_parts info_elem
  have hz8 : ¬ (1000 : Int) < (es.length : Int) := by omega
  go_enter Tryz.func75, Tryz.ntmps75
  go_wp2
  go_loopw [7, 8, 9, 18] (fun v6 v7 bv iv wr => FpRel w false es v6 v7 bv iv wr) (fun _ _ _ iv _ => es.length - (intOf iv).toNat)
  case atStart => exact ⟨0, [], [], false, false, Nat.zero_le _, rfl, rfl, rfl, fun _ => rfl, World.ownsRow_nil _ _ _ _, World.ownsRow_nil _ _ _ _, Below.refl _ _⟩
  case round =>
    obtain ⟨k, fs, xs, b, b', hk, rfl, rfl, hf, hbb, hI, hE, hbw⟩ := hrel
    have hfl := fourS_len false es k
    rw [hf] at hfl
    have hfl1 : fs.length ≤ k := hfl.1
    have hfl2 : xs.length ≤ k := hfl.2
    have HF : Hid (fourS false es k = (fs, xs, b')) := hf
    clear hf hfl
    by_cases hlt : k < es.length
    · obtain ⟨e, he⟩ : ∃ e, es[k]? = some e := ⟨_, List.getElem?_eq_getElem hlt⟩
      have hS2 := fourS_succ he HF.out
      obtain ⟨a0, a1, a2, a3⟩ := (hL.below hbw).cells k e he
      have hk8 : (k : Int) < (es.length : Int) := by omega
      have hsz := hbw.size
      obtain ⟨x, y, z, v⟩ := e
      simp only at a0 a1 a2 a3
      clear he HF hL
      rw [four1_plain] at hS2
      have HS2 : Hid _ := hS2
      clear hS2 hbb
      have HI : Hid (Ints _ _ _ _) := hI
      have HE : Hid (Elems _ _ _ _) := hE
      have HBW : Hid (Below _ _ _) := hbw
      have hba : Below w.heap.size w (wr.alloc (.cells #[.int .i64 x, .int .i64 y, .int .i64 z, .bool v] 80)) := hbw.alloc hbw.size _
      have HBA : Hid (Below _ _ _) := hba
      have hblk : (wr.alloc (.cells #[.int .i64 x, .int .i64 y, .int .i64 z, .bool v] 80)).heap[wr.heap.size]? = some (.cells #[.int .i64 x, .int .i64 y, .int .i64 z, .bool v] 80) := heap_alloc_new wr _
      have HBLK : Hid _ := hblk
      clear hblk hI hE hbw hba
      go_upto_region 9 with fail
      go_cut [9] from 22 to 31 (fun bv wx => bv = .bool (behB b ⟨x, y, z, v⟩) ∧ wx = wr.alloc (.cells #[.int .i64 x, .int .i64 y, .int .i64 z, .bool v] 80))
      case first =>
        clear HS2 HI HE HBW HBLK HBA a0 a1 a2 a3
        cases v
        · cases b
          · go_wp2
            go_meet
            case rel => exact ⟨rfl, rfl⟩
          · by_cases hx : x = 0
            · subst hx
              go_wp2
              go_meet
              case rel => exact ⟨rfl, rfl⟩
            · have hx2 : (x == 0) = false := by simpa using hx
              have HXB : Hid (behB true ⟨x, y, z, false⟩ = false) := by show _ = _; unfold behB; simp [hx]
              go_wp2
              go_meet
              case rel => exact ⟨by rw [HXB.out], rfl⟩
        · go_wp2
          go_meet
          case rel => exact ⟨by cases b <;> rfl, rfl⟩
      case rest =>
        obtain ⟨rfl, rfl⟩ := hcut
        clear a0 a1 a2 a3
        generalize behB b ⟨x, y, z, v⟩ = bb at *
        have hIz : (wr.alloc (.cells #[.int .i64 x, .int .i64 y, .int .i64 z, .bool v] 80)).ownsRow w.heap.size 3 1 u7 fs.length (fs.map (Value.int .i64)) := World.ownsRow.alloc HI.out _
        have hEz : (wr.alloc (.cells #[.int .i64 x, .int .i64 y, .int .i64 z, .bool v] 80)).ownsRow w.heap.size 80 4 u8 xs.length (elAll xs) := World.ownsRow.alloc HE.out _
        have hbz := HBA.out
        have hblkz := HBLK.out
        have hltz : wr.heap.size < (wr.alloc (.cells #[.int .i64 x, .int .i64 y, .int .i64 z, .bool v] 80)).heap.size := by simp
        have hlowz : ∀ j, u7.ownBlock = some j → j < wr.heap.size := fun j hj => (World.ownsRow.lt HI.out j hj).2
        have HHZ : Hid (_ = _) := hblkz
        have HBZ : Hid (Below _ _ _) := hbz
        have hszz := hbz.size
        clear hblkz hbz
        unfold Ints at *
        unfold Elems at *
        go_wp2_with (at_builtin; refine wpList_append_own _ rfl _ _ 59 rfl w.heap.size 3 i0 (.int .i64 0) 1 8 Tryz.underlying59 hi0 hz0 hs0 hy0 rfl (by decide) _ _ _ rfl (hIz.alloc _) ⟨wr.heap.size + 1, 0, none⟩ 1 1 [.int .i64 65535] rfl rfl (cells1_at _ _ _ _ (by simp)) (fun u hu => by simp at hu; subst hu; rfl) (by unfold maxLen; omega) (by omega) (by simp; omega) ?_)
        intro v6' w4 ho4 hg4 _
        have hI4 : Ints w4 w.heap.size v6' (fs ++ [65535]) := Ints.snoc ho4
        have hE4 : Elems w4 w.heap.size u8 xs := World.ownsRow.kept (hEz.alloc _) hg4 (own_type hEz hIz (by decide))
        have hb4 : w4.heap[wr.heap.size]? = some (.cells #[.int .i64 x, .int .i64 y, .int .i64 z, .bool v] 80) := by
          rw [hg4.block wr.heap.size (by simp; omega) (fun c => by have := hlowz wr.heap.size c.symm; omega), Below.heap_alloc _ _ _ hltz]; exact HHZ.out
        have hbw4 : Below w.heap.size w w4 := Below.grown (HBZ.out.alloc HBZ.out.size _) hg4 (HBZ.out.alloc HBZ.out.size _).size (fun j hj => (World.ownsRow.lt hIz j hj).1)
        have e0 := cell_of_row _ _ 0 _ _ _ hb4
        have e1 := cell_of_row _ _ 1 _ _ _ hb4
        have e2 := cell_of_row _ _ 2 _ _ _ hb4
        have e3 := cell_of_row _ _ 3 _ _ _ hb4
        have hsz4 := hbw4.size
        have HI4 : Hid (Ints _ _ _ _) := hI4
        have HB4 : Hid (Below _ _ _) := hbw4
        clear ho4 hg4 hb4 HBLK HHZ hlowz hIz hEz hI4 hbw4 HI HE HBW HBA HBZ
        unfold Elems at hE4
        go_wp2_with (at_builtin; refine wpList_append_own _ rfl _ _ 90 rfl w.heap.size 80 i1 _ 4 32 Tryz.underlying90 hi1 hz1 hs1 hy1 rfl (by decide) _ _ _ rfl (hE4.alloc _) ⟨w4.heap.size, 0, none⟩ 1 1 (elC (⟨x, y, z, v⟩ : El)) rfl rfl (cells4_at _ _ (⟨x, y, z, v⟩ : El) _ (by simp)) ?hone (by unfold maxLen; omega) (by omega) (by simp; omega) ?_)
        case hone =>
          intro u hu
          simp [elC] at hu
          rcases hu with rfl | rfl | rfl | rfl <;> rfl
        intro v7' w5 ho5 hg5 _
        have hE5 : Elems w5 w.heap.size v7' (xs ++ [(⟨x, y, z, v⟩ : El)]) := Elems.snoc ho5
        have hI5 : Ints w5 w.heap.size v6' (fs ++ [65535]) := World.ownsRow.kept (World.ownsRow.alloc HI4.out _) hg5 (own_type HI4.out hE4 (by decide))
        have hbw5 : Below w.heap.size w w5 := Below.grown (HB4.out.alloc HB4.out.size _) hg5 (HB4.out.alloc HB4.out.size _).size (fun j hj => (World.ownsRow.lt hE4 j hj).1)
        have HE5 : Hid (Elems _ _ _ _) := hE5
        have HI5 : Hid (Ints _ _ _ _) := hI5
        have HB5 : Hid (Below _ _ _) := hbw5
        clear ho5 hg5 hE5 hI5 hbw5 HI4 HB4 e0 e1 e2 e3 hE4
        go_wp2
        exact ⟨⟨k + 1, _, _, _, _, hlt, by go_num, rfl, HS2.out, (fun c => by cases c), HI5.out, HE5.out, HB5.out⟩, by simp [intOf]; omega⟩
    · have hk3 : k = es.length := by omega
      subst hk3
      have HFN : Hid (fs = fourths false es ∧ xs = counted false es) := by
        show _ ∧ _
        unfold fourths counted
        rw [HF.out]
        exact ⟨rfl, rfl⟩
      have HI : Hid (Ints _ _ _ _) := hI
      have HE : Hid (Elems _ _ _ _) := hE
      have HB : Hid (Below _ _ _) := hbw
      clear hI hE hbw HF hL hbb
      go_wp2
      go_ret3
      obtain ⟨rfl, rfl⟩ := HFN.out
      exact ⟨_, _, rfl, HI.out, HE.out, HB.out⟩

set_option maxRecDepth 100000 in
set_option maxHeartbeats 8000000 in
theorem implFourth_shift (w : World) (B g cap : Nat) (es : List El) (hz : es.length ≤ 1000) (hL : Elems w B (.slice (some ⟨g, 0, none⟩) es.length cap) es) :
    Calls Tryz.prog 75 #[.slice (some ⟨g, 0, none⟩) es.length cap, .bool true] w fun e w' => ∃ v v', e = .returned (.tuple #[v, v', .bool true]) ∧ Ints w' w.heap.size v (fourths true es) ∧ Elems w' w.heap.size v' (counted true es) ∧ Below w.heap.size w w' := by
  obtain ⟨i0, hi0, hz0, hs0, hy0⟩ := info_parts info_int
  obtain ⟨i1, hi1, hz1, hs1, hy1⟩ := info_parts info_elem
  have hz8 : ¬ (1000 : Int) < (es.length : Int) := by omega
  go_enter Tryz.func75, Tryz.ntmps75
  go_wp2
  go_loopw [7, 8, 9, 18] (fun v6 v7 bv iv wr => FpRel w true es v6 v7 bv iv wr) (fun _ _ _ iv _ => es.length - (intOf iv).toNat)
  case atStart => exact ⟨0, [], [], false, false, Nat.zero_le _, rfl, rfl, rfl, fun _ => rfl, World.ownsRow_nil _ _ _ _, World.ownsRow_nil _ _ _ _, Below.refl _ _⟩
  case round =>
    obtain ⟨k, fs, xs, b, b', hk, rfl, rfl, hf, hbb, hI, hE, hbw⟩ := hrel
    have hfl := fourS_len true es k
    rw [hf] at hfl
    have hfl1 : fs.length ≤ k := hfl.1
    have hfl2 : xs.length ≤ k := hfl.2
    have HF : Hid (fourS true es k = (fs, xs, b')) := hf
    clear hf hfl
    by_cases hlt : k < es.length
    · obtain ⟨e, he⟩ : ∃ e, es[k]? = some e := ⟨_, List.getElem?_eq_getElem hlt⟩
      have hS2 := fourS_succ he HF.out
      obtain ⟨a0, a1, a2, a3⟩ := (hL.below hbw).cells k e he
      have hk8 : (k : Int) < (es.length : Int) := by omega
      have hsz := hbw.size
      obtain ⟨x, y, z, v⟩ := e
      simp only at a0 a1 a2 a3
      clear he HF hL
      rw [← hbb rfl, four1_shift] at hS2
      have HS2 : Hid _ := hS2
      clear hS2 hbb
      have HI : Hid (Ints _ _ _ _) := hI
      have HE : Hid (Elems _ _ _ _) := hE
      have HBW : Hid (Below _ _ _) := hbw
      have hba : Below w.heap.size w (wr.alloc (.cells #[.int .i64 x, .int .i64 y, .int .i64 z, .bool v] 80)) := hbw.alloc hbw.size _
      have HBA : Hid (Below _ _ _) := hba
      have hblk : (wr.alloc (.cells #[.int .i64 x, .int .i64 y, .int .i64 z, .bool v] 80)).heap[wr.heap.size]? = some (.cells #[.int .i64 x, .int .i64 y, .int .i64 z, .bool v] 80) := heap_alloc_new wr _
      have HBLK : Hid _ := hblk
      clear hblk hI hE hbw hba
      go_upto_region 9 with fail
      go_cut [9] from 22 to 31 (fun bv wx => bv = .bool (behB b ⟨x, y, z, v⟩) ∧ wx = wr.alloc (.cells #[.int .i64 x, .int .i64 y, .int .i64 z, .bool v] 80))
      case first =>
        clear HS2 HI HE HBW HBLK HBA a0 a1 a2 a3
        cases v
        · cases b
          · go_wp2
            go_meet
            case rel => exact ⟨rfl, rfl⟩
          · by_cases hx : x = 0
            · subst hx
              go_wp2
              go_meet
              case rel => exact ⟨rfl, rfl⟩
            · have hx2 : (x == 0) = false := by simpa using hx
              have HXB : Hid (behB true ⟨x, y, z, false⟩ = false) := by show _ = _; unfold behB; simp [hx]
              go_wp2
              go_meet
              case rel => exact ⟨by rw [HXB.out], rfl⟩
        · go_wp2
          go_meet
          case rel => exact ⟨by cases b <;> rfl, rfl⟩
      case rest =>
        obtain ⟨rfl, rfl⟩ := hcut
        clear a0 a1 a2 a3
        have SH := fun u => shift_any ⟨x, y, z, v⟩ (behB b ⟨x, y, z, v⟩) u
        obtain ⟨bb, HBB⟩ : ∃ bb, Hid (behB b ⟨x, y, z, v⟩ = bb) := ⟨_, rfl⟩
        rw [HBB.out] at SH HS2
        rw [HBB.out]
        obtain ⟨n4, x', y', z', v', HP⟩ : ∃ n4 x' y' z' v', Hid (shE ⟨x, y, z, v⟩ bb = ((n4 : Int), (⟨x', y', z', v'⟩ : El))) := ⟨_, _, _, _, _, rfl⟩
        rw [HP.out] at SH HS2
        simp only at SH
        go_wp2_with fail
        refine (SH _).mono ?_
        rintro e w2 ⟨rfl, b2⟩
        clear SH
        have hb2 : w2.heap[wr.heap.size]? = some (.cells #[.int .i64 x, .int .i64 y, .int .i64 z, .bool v] 80) := (b2.block wr.heap.size (by simp)).trans HBLK.out
        have hlt2 : wr.heap.size < w2.heap.size := (Array.getElem?_eq_some_iff.1 hb2).1
        have d0 := cell_of_row _ _ 0 _ _ _ hb2
        have d1 := cell_of_row _ _ 1 _ _ _ hb2
        have d2 := cell_of_row _ _ 2 _ _ _ hb2
        have d3 := cell_of_row _ _ 3 _ _ _ hb2
        have f0 := frozen_row4 hb2
        obtain ⟨hblkz, hgz⟩ := set4_block hb2 (.int .i64 x') (.int .i64 y') (.int .i64 z') (.bool v')
        have hI2 := World.ownsRow.kept (World.ownsRow.alloc HI.out (.cells #[.int .i64 x, .int .i64 y, .int .i64 z, .bool v] 80)) (row := none) (below_grownBy4 b2 none) (by cases h : u7.ownBlock <;> simp)
        have hE2 := World.ownsRow.kept (World.ownsRow.alloc HE.out (.cells #[.int .i64 x, .int .i64 y, .int .i64 z, .bool v] 80)) (row := none) (below_grownBy4 b2 none) (by cases h : u8.ownBlock <;> simp)
        have hlowz : ∀ j, u7.ownBlock = some j → j < wr.heap.size := fun j hj => (World.ownsRow.lt HI.out j hj).2
        have hlowy : ∀ j, u8.ownBlock = some j → j < wr.heap.size := fun j hj => (World.ownsRow.lt HE.out j hj).2
        have hIz := World.ownsRow.kept hI2 hgz (by
          cases h : u7.ownBlock with
          | none => exact .inl rfl
          | some j => exact .inr fun c => by have := hlowz j h; have := Option.some.inj c; omega)
        have hEz := World.ownsRow.kept hE2 hgz (by
          cases h : u8.ownBlock with
          | none => exact .inl rfl
          | some j => exact .inr fun c => by have := hlowy j h; have := Option.some.inj c; omega)
        have hbz : Below w.heap.size w ((((w2.setCell ⟨wr.heap.size, 0, none⟩ (.int .i64 x')).setCell ⟨wr.heap.size, 1, none⟩ (.int .i64 y')).setCell ⟨wr.heap.size, 2, none⟩ (.int .i64 z')).setCell ⟨wr.heap.size, 3, none⟩ (.bool v')) := ((((HBA.out.trans (b2.mono HBA.out.size)).setCell HBW.out.size _).setCell HBW.out.size _).setCell HBW.out.size _).setCell HBW.out.size _
        have hltz : wr.heap.size < ((((w2.setCell ⟨wr.heap.size, 0, none⟩ (.int .i64 x')).setCell ⟨wr.heap.size, 1, none⟩ (.int .i64 y')).setCell ⟨wr.heap.size, 2, none⟩ (.int .i64 z')).setCell ⟨wr.heap.size, 3, none⟩ (.bool v')).heap.size := (Array.getElem?_eq_some_iff.1 hblkz).1
        clear b2 hb2 hI2 hE2 hgz
        have HHZ : Hid (_ = _) := hblkz
        have HBZ : Hid (Below _ _ _) := hbz
        have hszz := hbz.size
        clear hblkz hbz
        unfold Ints at *
        unfold Elems at *
        go_wp2_with (at_builtin; refine wpList_append_own _ rfl _ _ 59 rfl w.heap.size 3 i0 (.int .i64 0) 1 8 Tryz.underlying59 hi0 hz0 hs0 hy0 rfl (by decide) _ _ _ rfl (hIz.alloc _) ⟨w2.heap.size, 0, none⟩ 1 1 [.int .i64 n4] rfl rfl (cells1_at _ _ _ _ (by simp)) (fun u hu => by simp at hu; subst hu; rfl) (by unfold maxLen; omega) (by omega) (by simp; omega) ?_)
        intro v6' w4 ho4 hg4 _
        have hI4 : Ints w4 w.heap.size v6' (fs ++ [n4]) := Ints.snoc ho4
        have hE4 : Elems w4 w.heap.size u8 xs := World.ownsRow.kept (hEz.alloc _) hg4 (own_type hEz hIz (by decide))
        have hb4 : w4.heap[wr.heap.size]? = some (.cells #[.int .i64 x', .int .i64 y', .int .i64 z', .bool v'] 80) := by
          rw [hg4.block wr.heap.size (by simp; omega) (fun c => by have := hlowz wr.heap.size c.symm; omega), Below.heap_alloc _ _ _ hltz]; exact HHZ.out
        have hbw4 : Below w.heap.size w w4 := Below.grown (HBZ.out.alloc HBZ.out.size _) hg4 (HBZ.out.alloc HBZ.out.size _).size (fun j hj => (World.ownsRow.lt hIz j hj).1)
        have e0 := cell_of_row _ _ 0 _ _ _ hb4
        have e1 := cell_of_row _ _ 1 _ _ _ hb4
        have e2 := cell_of_row _ _ 2 _ _ _ hb4
        have e3 := cell_of_row _ _ 3 _ _ _ hb4
        have hsz4 := hbw4.size
        have HI4 : Hid (Ints _ _ _ _) := hI4
        have HB4 : Hid (Below _ _ _) := hbw4
        clear ho4 hg4 hb4 HBLK HHZ hlowz hIz hEz hI4 hbw4 HI HE HBW HBA HBZ
        unfold Elems at hE4
        go_wp2_with (at_builtin; refine wpList_append_own _ rfl _ _ 90 rfl w.heap.size 80 i1 _ 4 32 Tryz.underlying90 hi1 hz1 hs1 hy1 rfl (by decide) _ _ _ rfl (hE4.alloc _) ⟨w4.heap.size, 0, none⟩ 1 1 (elC (⟨x', y', z', v'⟩ : El)) rfl rfl (cells4_at _ _ (⟨x', y', z', v'⟩ : El) _ (by simp)) ?hone (by unfold maxLen; omega) (by omega) (by simp; omega) ?_)
        case hone =>
          intro u hu
          simp [elC] at hu
          rcases hu with rfl | rfl | rfl | rfl <;> rfl
        intro v7' w5 ho5 hg5 _
        have hE5 : Elems w5 w.heap.size v7' (xs ++ [(⟨x', y', z', v'⟩ : El)]) := Elems.snoc ho5
        have hI5 : Ints w5 w.heap.size v6' (fs ++ [n4]) := World.ownsRow.kept (World.ownsRow.alloc HI4.out _) hg5 (own_type HI4.out hE4 (by decide))
        have hbw5 : Below w.heap.size w w5 := Below.grown (HB4.out.alloc HB4.out.size _) hg5 (HB4.out.alloc HB4.out.size _).size (fun j hj => (World.ownsRow.lt hE4 j hj).1)
        have HE5 : Hid (Elems _ _ _ _) := hE5
        have HI5 : Hid (Ints _ _ _ _) := hI5
        have HB5 : Hid (Below _ _ _) := hbw5
        clear ho5 hg5 hE5 hI5 hbw5 HI4 HB4 e0 e1 e2 e3 hE4
        go_wp2
        exact ⟨⟨k + 1, _, _, _, _, hlt, by go_num, rfl, HS2.out, (fun _ => rfl), HI5.out, HE5.out, HB5.out⟩, by simp [intOf]; omega⟩
    · have hk3 : k = es.length := by omega
      subst hk3
      have HFN : Hid (fs = fourths true es ∧ xs = counted true es) := by
        show _ ∧ _
        unfold fourths counted
        rw [HF.out]
        exact ⟨rfl, rfl⟩
      have HI : Hid (Ints _ _ _ _) := hI
      have HE : Hid (Elems _ _ _ _) := hE
      have HB : Hid (Below _ _ _) := hbw
      clear hI hE hbw HF hL hbb
      go_wp2
      go_ret3
      obtain ⟨rfl, rfl⟩ := HFN.out
      exact ⟨_, _, rfl, HI.out, HE.out, HB.out⟩

set_option maxRecDepth 100000 in
set_option maxHeartbeats 1000000 in
theorem implFourth_nil (w : World) (sh : Bool) : Calls Tryz.prog 75 #[.slice none 0 0, .bool sh] w fun e w' => ∃ v v', e = .returned (.tuple #[v, v', .bool true]) ∧ Ints w' w.heap.size v [] ∧ Elems w' w.heap.size v' [] ∧ Below w.heap.size w w' := by
  go_enter Tryz.func75, Tryz.ntmps75
  go_wp2
  go_loopw [7, 8, 9, 18] (fun v6 v7 bv iv wr => v6 = .slice none 0 0 ∧ v7 = .slice none 0 0 ∧ bv = .bool false ∧ iv = .int .i64 0 ∧ wr = w) (fun _ _ _ _ _ => 0)
  case atStart => exact ⟨rfl, rfl, rfl, rfl, rfl⟩
  case round =>
    obtain ⟨rfl, rfl, rfl, rfl, rfl⟩ := hrel
    go_wp2
    go_ret3
    exact ⟨_, _, rfl, World.ownsRow_nil _ _ _ _, World.ownsRow_nil _ _ _ _, Below.refl _ _⟩

set_option maxRecDepth 100000 in
set_option maxHeartbeats 1000000 in
theorem implFourth_long (w : World) (a : Option Addr) (n c : Nat) (sh : Bool) (h : 1000 < n) : Calls Tryz.prog 75 #[.slice a n c, .bool sh] w fun e w' => ∃ v v', e = .returned (.tuple #[v, v', .bool false]) ∧ Ints w' w.heap.size v [] ∧ Elems w' w.heap.size v' [] ∧ Below w.heap.size w w' := by
  have h2 : (1000 : Int) < (n : Int) := by omega
  go_enter Tryz.func75, Tryz.ntmps75
  go_wp2
  go_ret3
  exact ⟨_, _, rfl, World.ownsRow_nil _ _ _ _, World.ownsRow_nil _ _ _ _, Below.refl _ _⟩

theorem implFourth_ok {w : World} {B : Nat} {v : Value} {es : List El} (sh : Bool) (hz : es.length ≤ 1000) (hL : Elems w B v es) :
    Calls Tryz.prog 75 #[v, .bool sh] w fun e w' => ∃ v v', e = .returned (.tuple #[v, v', .bool true]) ∧ Ints w' w.heap.size v (fourths sh es) ∧ Elems w' w.heap.size v' (counted sh es) ∧ Below w.heap.size w w' := by
  rcases hL.form with ⟨rfl, rfl⟩ | ⟨g, cap, rfl, _, _⟩
  · exact implFourth_nil w sh
  · cases sh
    · exact implFourth_plain w B g cap es hz hL
    · exact implFourth_shift w B g cap es hz hL
end Go.Proofs.YtanfebccenfffagGreatDoor
