/- Texts of mine laid together: IClone, ResC, IShift, IFourth, ICount, PIs, IPair. -/
import Derived.Test.YtanfebccenfffahGreatDoorStrs
import Derived.Shelf.Pu.Clone
import Derived.Test.YtanfebccenfffahGreatDoorInts
import Derived.Test.YtanfebccenfffahGreatDoorFour
import Derived.Deep.RegionHeld3
import Derived.Test.YtanfebccenfffahGreatDoorRowKinds
import Derived.Deep.Cut
import Derived.Deep.CutRange
import Derived.Test.YtanfebccenfffahGreatDoorPKey2
import Derived.Test.YtanfebccenfffahGreatDoorSD
import Derived.Test.YtanfebccenfffahGreatDoorMP1
import Derived.Test.YtanfebccenfffahGreatDoorNorm2
import Derived.Test.YtanfebccenfffahGreatDoorClass
import Derived.Deep.WholeRow
namespace Go.Proofs.YtanfebccenfffahGreatDoor
open Go.RowKit

def pu25_ren : Go.Shelf.Ren := ⟨fun | 25 => 55 | n => n, fun | 0 => 0 | 3 => 3 | 4 => 4 | 5 => 5 | 9 => 9 | 37 => 76 | 47 => 112 | n => n, fun | n => n⟩
theorem pu25 : Go.Proofs.LaysPu.n25 Tryz.prog pu25_ren := {
  mixed := by kernel_rfl
  f25 := Tryz.func55.trans (congrArg some (by kernel_rfl))
  t0 := Tryz.underlying0
  a0 := Tryz.isAgg0
  z0 := Tryz.sizeOf0
  v0 := Tryz.zeroValue0
  i0 := by kernel_rfl
  t3 := Tryz.underlying3
  a3 := Tryz.isAgg3
  z3 := Tryz.sizeOf3
  v3 := Tryz.zeroValue3
  i3 := by kernel_rfl
  t4 := Tryz.underlying4
  a4 := Tryz.isAgg4
  z4 := Tryz.sizeOf4
  v4 := Tryz.zeroValue4
  i4 := by kernel_rfl
  t5 := Tryz.underlying5
  a5 := Tryz.isAgg5
  z5 := Tryz.sizeOf5
  v5 := Tryz.zeroValue5
  i5 := by kernel_rfl
  t9 := Tryz.underlying9
  a9 := Tryz.isAgg9
  z9 := Tryz.sizeOf9
  v9 := Tryz.zeroValue9
  i9 := by kernel_rfl
  t37 := Tryz.underlying76
  a37 := Tryz.isAgg76
  z37 := Tryz.sizeOf76
  v37 := Tryz.zeroValue76
  i37 := by kernel_rfl
  t47 := Tryz.underlying112
  a47 := Tryz.isAgg112
  z47 := Tryz.sizeOf112
  v47 := Tryz.zeroValue112
  i47 := by kernel_rfl }

set_option maxRecDepth 100000 in
set_option maxHeartbeats 1000000 in
theorem clone_str (s : ByteArray) (w : World) (hs : s.size ≤ 1048576) : Calls Tryz.prog 36 #[.string s] w fun e w' => e = .returned (.string s) ∧ Below w.heap.size w w' := by
  have C : Calls Tryz.prog 55 #[.string s] w fun e w' => e = .returned (.string s) ∧ Below w.heap.size w w' := Go.Proofs.AnyPu.stringslite_Clone pu25 s w (by omega)
  go_enter Tryz.func36, Tryz.ntmps36
  go_wp2_with fail
  refine C.mono ?_
  rintro e w1 ⟨rfl, b1⟩
  clear C
  go_wp2
  go_ret
  exact ⟨rfl, b1⟩
end Go.Proofs.YtanfebccenfffahGreatDoor

namespace Go.Proofs.YtanfebccenfffahGreatDoor
open Go.RowKit

theorem results_cell1 {fn : Func} {p : Tmp} {ty : TypeId} (h : fn.results = #[.cell p ty]) (tmps : Array Value) (P : Program) (w : World) :
    (results fn tmps).run P w = ((asAddr (tmps.getD p undef)).run P w).andThen fun a w₁ => (loadVar ty a).run P w₁ := by
  simp only [results, h]
  simp [Sem.run_bind, Result.andThen]

theorem results_tmp_cell {fn : Func} {p u : Tmp} {ty : TypeId} (h : fn.results = #[.tmp u, .cell p ty]) (tmps : Array Value) (P : Program) (w : World) :
    (results fn tmps).run P w = ((asAddr (tmps.getD p undef)).run P w).andThen fun a w₁ => ((loadVar ty a).run P w₁).andThen fun v w₂ => .ok (.tuple #[tmps.getD u undef, v]) w₂ := by
  simp only [results, h]
  simp [Sem.run_bind, Result.andThen]
end Go.Proofs.YtanfebccenfffahGreatDoor

namespace Go.Proofs.YtanfebccenfffahGreatDoor
open Go.RowKit

/-- The fourth weight of an elem and how it counts; b: whether it varies or stands behind one that does. -/
def shE (e : El) (b : Bool) : Int × El := if e.varies = true then (e.first, elZ) else if b = true ∨ (e.first = 0 ∧ e.second = 0 ∧ e.third = 0) then (0, elZ) else (65535, e)

def behB (b : Bool) (e : El) : Bool := e.varies || (b && e.first == 0)

theorem four1_shift (b : Bool) (e : El) : four1 true b e = ((shE e (behB b e)).1, (shE e (behB b e)).2, behB b e) := by
  obtain ⟨x, y, z, v⟩ := e
  unfold four1 shE behB elZ
  cases v <;> cases b <;> by_cases hx : x = 0 <;> by_cases hy : y = 0 <;> by_cases hz : z = 0 <;> simp [hx, hy, hz]

theorem below_two (w : World) (o o' : Obj) : Below w.heap.size w ((w.alloc o).alloc o') := ((Below.refl w.heap.size w).alloc (Nat.le_refl _) o).alloc (by simp) o'

theorem ret_sh {p : Int × El} {n : Int} {a b c : Int} {d : Bool} (h : p = (n, ⟨a, b, c, d⟩)) : Ending.returned (.tuple #[.int .i64 n, .agg #[.int .i64 a, .int .i64 b, .int .i64 c, .bool d]]) = .returned (.tuple #[.int .i64 p.1, .agg #[.int .i64 p.2.first, .int .i64 p.2.second, .int .i64 p.2.third, .bool p.2.varies]]) := by rw [h]

set_option maxRecDepth 100000 in
set_option maxHeartbeats 4000000 in
theorem shift_any (e : El) (b : Bool) (w : World) :
    Calls Tryz.prog 80 #[.agg #[.int .i64 e.first, .int .i64 e.second, .int .i64 e.third, .bool e.varies], .bool b] w fun x w' => x = .returned (.tuple #[.int .i64 (shE e b).1, .agg #[.int .i64 (shE e b).2.first, .int .i64 (shE e b).2.second, .int .i64 (shE e b).2.third, .bool (shE e b).2.varies]]) ∧ Below w.heap.size w w' := by
  obtain ⟨x, y, z, v⟩ := e
  have hba := ((Below.refl w.heap.size w).alloc (Nat.le_refl _) (.cells #[.int .i64 x, .int .i64 y, .int .i64 z, .bool v] 62)).alloc (by simp) (.cells #[.int .i64 0, .int .i64 0, .int .i64 0, .bool false] 62)
  cases v
  · cases b
    · by_cases hz : x = 0 ∧ y = 0 ∧ z = 0
      · obtain ⟨rfl, rfl, rfl⟩ := hz
        have HO : Hid (shE ⟨0, 0, 0, false⟩ false = (0, ⟨0, 0, 0, false⟩)) := by show _ = _; unfold shE elZ; simp
        go_enter Tryz.func80, Tryz.ntmps80
        go_wp2
        refine bodyPost_ret (v := .tuple #[.int .i64 0, .agg #[.int .i64 0, .int .i64 0, .int .i64 0, .bool false]]) ?_ rfl ⟨ret_sh HO.out, hba⟩
        rw [results_tmp_cell rfl]
        go_simp
      · by_cases hx : x = 0
        · subst hx
          by_cases hy : y = 0
          · subst hy
            have hz0 : ¬ z = 0 := fun c => hz ⟨rfl, rfl, c⟩
            have HO : Hid (shE ⟨0, 0, z, false⟩ false = (65535, ⟨0, 0, z, false⟩)) := by show _ = _; unfold shE elZ; simp [hz0]
            go_enter Tryz.func80, Tryz.ntmps80
            go_wp2
            go_region
            all_goals
              go_wp2
              refine bodyPost_ret (v := .tuple #[.int .i64 65535, .agg #[.int .i64 0, .int .i64 0, .int .i64 z, .bool false]]) ?_ rfl ⟨ret_sh HO.out, (below_two w _ _).drew⟩
              rw [results_tmp_cell rfl]
              go_simp
          · have HO : Hid (shE ⟨0, y, z, false⟩ false = (65535, ⟨0, y, z, false⟩)) := by show _ = _; unfold shE elZ; simp [hy]
            go_enter Tryz.func80, Tryz.ntmps80
            go_wp2
            go_region
            all_goals
              go_wp2
              refine bodyPost_ret (v := .tuple #[.int .i64 65535, .agg #[.int .i64 0, .int .i64 y, .int .i64 z, .bool false]]) ?_ rfl ⟨ret_sh HO.out, (below_two w _ _).drew⟩
              rw [results_tmp_cell rfl]
              go_simp
        · have HO : Hid (shE ⟨x, y, z, false⟩ false = (65535, ⟨x, y, z, false⟩)) := by show _ = _; unfold shE elZ; simp [hx]
          go_enter Tryz.func80, Tryz.ntmps80
          go_wp2
          go_region
          all_goals
            go_wp2
            refine bodyPost_ret (v := .tuple #[.int .i64 65535, .agg #[.int .i64 x, .int .i64 y, .int .i64 z, .bool false]]) ?_ rfl ⟨ret_sh HO.out, (below_two w _ _).drew⟩
            rw [results_tmp_cell rfl]
            go_simp
    · have HO : Hid (shE ⟨x, y, z, false⟩ true = (0, ⟨0, 0, 0, false⟩)) := by show _ = _; unfold shE elZ; simp
      go_enter Tryz.func80, Tryz.ntmps80
      go_wp2
      refine bodyPost_ret (v := .tuple #[.int .i64 0, .agg #[.int .i64 0, .int .i64 0, .int .i64 0, .bool false]]) ?_ rfl ⟨ret_sh HO.out, hba⟩
      rw [results_tmp_cell rfl]
      go_simp
  · have HO : Hid (shE ⟨x, y, z, true⟩ b = (x, ⟨0, 0, 0, false⟩)) := by show _ = _; unfold shE elZ; simp
    go_enter Tryz.func80, Tryz.ntmps80
    go_wp2
    refine bodyPost_ret (v := .tuple #[.int .i64 x, .agg #[.int .i64 0, .int .i64 0, .int .i64 0, .bool false]]) ?_ rfl ⟨ret_sh HO.out, hba⟩
    rw [results_tmp_cell rfl]
    go_simp
end Go.Proofs.YtanfebccenfffahGreatDoor

namespace Go.Proofs.YtanfebccenfffahGreatDoor
open Go.RowKit

theorem set4_block {w : World} {n : Nat} {x y z t : Value} {T : TypeId} (h : w.heap[n]? = some (.cells #[x, y, z, t] T)) (a b c d : Value) :
    ((((w.setCell ⟨n, 0, none⟩ a).setCell ⟨n, 1, none⟩ b).setCell ⟨n, 2, none⟩ c).setCell ⟨n, 3, none⟩ d).heap[n]? = some (.cells #[a, b, c, d] T) ∧ w.grownBy ((((w.setCell ⟨n, 0, none⟩ a).setCell ⟨n, 1, none⟩ b).setCell ⟨n, 2, none⟩ c).setCell ⟨n, 3, none⟩ d) (some n) := by
  have h1 := heap_setCell_same w n 0 _ _ a h
  have h2 := heap_setCell_same _ n 1 _ _ b h1
  have h3 := heap_setCell_same _ n 2 _ _ c h2
  have h4 := heap_setCell_same _ n 3 _ _ d h3
  refine ⟨h4, rfl, rfl, rfl, by simp [World.setCell], fun k hk hne => ?_⟩
  have hkn : k ≠ n := fun e => hne (by rw [e])
  rw [heap_setCell_other _ _ k _ hkn, heap_setCell_other _ _ k _ hkn, heap_setCell_other _ _ k _ hkn, heap_setCell_other _ _ k _ hkn]

theorem frozen_row4 {w : World} {n : Nat} {cs : Array Value} {T : TypeId} (h : w.heap[n]? = some (.cells cs T)) (j : Nat) : w.frozen? ⟨n, j, none⟩ = false := by simp [World.frozen?, h]

def FpRel (w : World) (sh : Bool) (es : List El) (v6 v7 bv iv : Value) (wr : World) : Prop :=
  ∃ (k : Nat) (fs : List Int) (xs : List El) (b b' : Bool), k ≤ es.length ∧ iv = .int .i64 k ∧ bv = .bool b ∧ fourS sh es k = (fs, xs, b') ∧ (sh = true → b = b') ∧ Ints wr w.heap.size v6 fs ∧ Elems wr w.heap.size v7 xs ∧ Below w.heap.size w wr

theorem below_grownBy4 {w w' : World} (hb : Below w.heap.size w w') (row : Option Nat) : w.grownBy w' row := ⟨hb.os, hb.tape, hb.output, hb.size, fun k hk _ => hb.block k hk⟩

set_option maxRecDepth 100000 in
set_option maxHeartbeats 8000000 in
theorem implFourth_plain (w : World) (B g cap : Nat) (es : List El) (hz : es.length ≤ 1000) (hL : Elems w B (.slice (some ⟨g, 0, none⟩) es.length cap) es) :
    Calls Tryz.prog 69 #[.slice (some ⟨g, 0, none⟩) es.length cap, .bool false] w fun e w' => ∃ v v', e = .returned (.tuple #[v, v', .bool true]) ∧ Ints w' w.heap.size v (fourths false es) ∧ Elems w' w.heap.size v' (counted false es) ∧ Below w.heap.size w w' := by
  obtain ⟨i0, hi0, hz0, hs0, hy0⟩ := info_parts info_int
  obtain ⟨i1, hi1, hz1, hs1, hy1⟩ := info_parts info_elem
  have hz8 : ¬ (1000 : Int) < (es.length : Int) := by omega
  go_enter Tryz.func69, Tryz.ntmps69
  go_wp2
  go_loopw [7, 8, 9, 18] (fun v6 v7 bv iv wr => FpRel w false es v6 v7 bv iv wr) (fun _ _ _ iv _ => es.length - (intOf iv).toNat)
  case atStart => exact ⟨0, [], [], false, false, Nat.zero_le _, rfl, rfl, rfl, fun _ => rfl, World.ownsRow_nil _ _ _ _, World.ownsRow_nil _ _ _ _, Below.refl _ _⟩
  case round =>
    obtain ⟨k, fs, xs, b, b', hk, rfl, rfl, hf, hbb, hI, hE, hbw⟩ := hrel
    have hfl := fourS_len false es k
    rw [hf] at hfl
    have hfl1 : fs.length ≤ k := hfl.1
    have hfl2 : xs.length ≤ k := hfl.2
    have HF : Hid (fourS false es k = (fs, xs, b')) := hf
    clear hf hfl
    by_cases hlt : k < es.length
    · obtain ⟨e, he⟩ : ∃ e, es[k]? = some e := ⟨_, List.getElem?_eq_getElem hlt⟩
      have hS2 := fourS_succ he HF.out
      obtain ⟨a0, a1, a2, a3⟩ := (hL.below hbw).cells k e he
      have hk8 : (k : Int) < (es.length : Int) := by omega
      have hsz := hbw.size
      obtain ⟨x, y, z, v⟩ := e
      simp only at a0 a1 a2 a3
      clear he HF hL
      rw [four1_plain] at hS2
      have HS2 : Hid _ := hS2
      clear hS2 hbb
      have HI : Hid (Ints _ _ _ _) := hI
      have HE : Hid (Elems _ _ _ _) := hE
      have HBW : Hid (Below _ _ _) := hbw
      have hba : Below w.heap.size w (wr.alloc (.cells #[.int .i64 x, .int .i64 y, .int .i64 z, .bool v] 62)) := hbw.alloc hbw.size _
      have HBA : Hid (Below _ _ _) := hba
      have hblk : (wr.alloc (.cells #[.int .i64 x, .int .i64 y, .int .i64 z, .bool v] 62)).heap[wr.heap.size]? = some (.cells #[.int .i64 x, .int .i64 y, .int .i64 z, .bool v] 62) := heap_alloc_new wr _
      have HBLK : Hid _ := hblk
      clear hblk hI hE hbw hba
      go_upto_region 9 with fail
      go_cut [9] from 22 to 31 (fun bv wx => bv = .bool (behB b ⟨x, y, z, v⟩) ∧ wx = wr.alloc (.cells #[.int .i64 x, .int .i64 y, .int .i64 z, .bool v] 62))
      case first =>
        clear HS2 HI HE HBW HBLK HBA a0 a1 a2 a3
        cases v
        · cases b
          · go_wp2
            go_meet
            case rel => exact ⟨rfl, rfl⟩
          · by_cases hx : x = 0
            · subst hx
              go_wp2
              go_meet
              case rel => exact ⟨rfl, rfl⟩
            · have hx2 : (x == 0) = false := by simpa using hx
              have HXB : Hid (behB true ⟨x, y, z, false⟩ = false) := by show _ = _; unfold behB; simp [hx]
              go_wp2
              go_meet
              case rel => exact ⟨by rw [HXB.out], rfl⟩
        · go_wp2
          go_meet
          case rel => exact ⟨by cases b <;> rfl, rfl⟩
      case rest =>
        obtain ⟨rfl, rfl⟩ := hcut
        clear a0 a1 a2 a3
        generalize behB b ⟨x, y, z, v⟩ = bb at *
        have hIz : (wr.alloc (.cells #[.int .i64 x, .int .i64 y, .int .i64 z, .bool v] 62)).ownsRow w.heap.size 3 1 u7 fs.length (fs.map (Value.int .i64)) := World.ownsRow.alloc HI.out _
        have hEz : (wr.alloc (.cells #[.int .i64 x, .int .i64 y, .int .i64 z, .bool v] 62)).ownsRow w.heap.size 62 4 u8 xs.length (elAll xs) := World.ownsRow.alloc HE.out _
        have hbz := HBA.out
        have hblkz := HBLK.out
        have hltz : wr.heap.size < (wr.alloc (.cells #[.int .i64 x, .int .i64 y, .int .i64 z, .bool v] 62)).heap.size := by simp
        have hlowz : ∀ j, u7.ownBlock = some j → j < wr.heap.size := fun j hj => (World.ownsRow.lt HI.out j hj).2
        have HHZ : Hid (_ = _) := hblkz
        have HBZ : Hid (Below _ _ _) := hbz
        have hszz := hbz.size
        clear hblkz hbz
        unfold Ints at *
        unfold Elems at *
        go_wp2_with (at_builtin; refine wpList_append_own _ rfl _ _ 53 rfl w.heap.size 3 i0 (.int .i64 0) 1 8 Tryz.underlying53 hi0 hz0 hs0 hy0 rfl (by decide) _ _ _ rfl (hIz.alloc _) ⟨wr.heap.size + 1, 0, none⟩ 1 1 [.int .i64 65535] rfl rfl (cells1_at _ _ _ _ (by simp)) (fun u hu => by simp at hu; subst hu; rfl) (by unfold maxLen; omega) (by omega) (by simp; omega) ?_)
        intro v6' w4 ho4 hg4 _
        have hI4 : Ints w4 w.heap.size v6' (fs ++ [65535]) := Ints.snoc ho4
        have hE4 : Elems w4 w.heap.size u8 xs := World.ownsRow.kept (hEz.alloc _) hg4 (own_type hEz hIz (by decide))
        have hb4 : w4.heap[wr.heap.size]? = some (.cells #[.int .i64 x, .int .i64 y, .int .i64 z, .bool v] 62) := by
          rw [hg4.block wr.heap.size (by simp; omega) (fun c => by have := hlowz wr.heap.size c.symm; omega), Below.heap_alloc _ _ _ hltz]; exact HHZ.out
        have hbw4 : Below w.heap.size w w4 := Below.grown (HBZ.out.alloc HBZ.out.size _) hg4 (HBZ.out.alloc HBZ.out.size _).size (fun j hj => (World.ownsRow.lt hIz j hj).1)
        have e0 := cell_of_row _ _ 0 _ _ _ hb4
        have e1 := cell_of_row _ _ 1 _ _ _ hb4
        have e2 := cell_of_row _ _ 2 _ _ _ hb4
        have e3 := cell_of_row _ _ 3 _ _ _ hb4
        have hsz4 := hbw4.size
        have HI4 : Hid (Ints _ _ _ _) := hI4
        have HB4 : Hid (Below _ _ _) := hbw4
        clear ho4 hg4 hb4 HBLK HHZ hlowz hIz hEz hI4 hbw4 HI HE HBW HBA HBZ
        unfold Elems at hE4
        go_wp2_with (at_builtin; refine wpList_append_own _ rfl _ _ 83 rfl w.heap.size 62 i1 _ 4 32 Tryz.underlying83 hi1 hz1 hs1 hy1 rfl (by decide) _ _ _ rfl (hE4.alloc _) ⟨w4.heap.size, 0, none⟩ 1 1 (elC (⟨x, y, z, v⟩ : El)) rfl rfl (cells4_at _ _ (⟨x, y, z, v⟩ : El) _ (by simp)) ?hone (by unfold maxLen; omega) (by omega) (by simp; omega) ?_)
        case hone =>
          intro u hu
          simp [elC] at hu
          rcases hu with rfl | rfl | rfl | rfl <;> rfl
        intro v7' w5 ho5 hg5 _
        have hE5 : Elems w5 w.heap.size v7' (xs ++ [(⟨x, y, z, v⟩ : El)]) := Elems.snoc ho5
        have hI5 : Ints w5 w.heap.size v6' (fs ++ [65535]) := World.ownsRow.kept (World.ownsRow.alloc HI4.out _) hg5 (own_type HI4.out hE4 (by decide))
        have hbw5 : Below w.heap.size w w5 := Below.grown (HB4.out.alloc HB4.out.size _) hg5 (HB4.out.alloc HB4.out.size _).size (fun j hj => (World.ownsRow.lt hE4 j hj).1)
        have HE5 : Hid (Elems _ _ _ _) := hE5
        have HI5 : Hid (Ints _ _ _ _) := hI5
        have HB5 : Hid (Below _ _ _) := hbw5
        clear ho5 hg5 hE5 hI5 hbw5 HI4 HB4 e0 e1 e2 e3 hE4
        go_wp2
        exact ⟨⟨k + 1, _, _, _, _, hlt, by go_num, rfl, HS2.out, (fun c => by cases c), HI5.out, HE5.out, HB5.out⟩, by simp [intOf]; omega⟩
    · have hk3 : k = es.length := by omega
      subst hk3
      have HFN : Hid (fs = fourths false es ∧ xs = counted false es) := by
        show _ ∧ _
        unfold fourths counted
        rw [HF.out]
        exact ⟨rfl, rfl⟩
      have HI : Hid (Ints _ _ _ _) := hI
      have HE : Hid (Elems _ _ _ _) := hE
      have HB : Hid (Below _ _ _) := hbw
      clear hI hE hbw HF hL hbb
      go_wp2
      go_ret3
      obtain ⟨rfl, rfl⟩ := HFN.out
      exact ⟨_, _, rfl, HI.out, HE.out, HB.out⟩

set_option maxRecDepth 100000 in
set_option maxHeartbeats 8000000 in
theorem implFourth_shift (w : World) (B g cap : Nat) (es : List El) (hz : es.length ≤ 1000) (hL : Elems w B (.slice (some ⟨g, 0, none⟩) es.length cap) es) :
    Calls Tryz.prog 69 #[.slice (some ⟨g, 0, none⟩) es.length cap, .bool true] w fun e w' => ∃ v v', e = .returned (.tuple #[v, v', .bool true]) ∧ Ints w' w.heap.size v (fourths true es) ∧ Elems w' w.heap.size v' (counted true es) ∧ Below w.heap.size w w' := by
  obtain ⟨i0, hi0, hz0, hs0, hy0⟩ := info_parts info_int
  obtain ⟨i1, hi1, hz1, hs1, hy1⟩ := info_parts info_elem
  have hz8 : ¬ (1000 : Int) < (es.length : Int) := by omega
  go_enter Tryz.func69, Tryz.ntmps69
  go_wp2
  go_loopw [7, 8, 9, 18] (fun v6 v7 bv iv wr => FpRel w true es v6 v7 bv iv wr) (fun _ _ _ iv _ => es.length - (intOf iv).toNat)
  case atStart => exact ⟨0, [], [], false, false, Nat.zero_le _, rfl, rfl, rfl, fun _ => rfl, World.ownsRow_nil _ _ _ _, World.ownsRow_nil _ _ _ _, Below.refl _ _⟩
  case round =>
    obtain ⟨k, fs, xs, b, b', hk, rfl, rfl, hf, hbb, hI, hE, hbw⟩ := hrel
    have hfl := fourS_len true es k
    rw [hf] at hfl
    have hfl1 : fs.length ≤ k := hfl.1
    have hfl2 : xs.length ≤ k := hfl.2
    have HF : Hid (fourS true es k = (fs, xs, b')) := hf
    clear hf hfl
    by_cases hlt : k < es.length
    · obtain ⟨e, he⟩ : ∃ e, es[k]? = some e := ⟨_, List.getElem?_eq_getElem hlt⟩
      have hS2 := fourS_succ he HF.out
      obtain ⟨a0, a1, a2, a3⟩ := (hL.below hbw).cells k e he
      have hk8 : (k : Int) < (es.length : Int) := by omega
      have hsz := hbw.size
      obtain ⟨x, y, z, v⟩ := e
      simp only at a0 a1 a2 a3
      clear he HF hL
      rw [← hbb rfl, four1_shift] at hS2
      have HS2 : Hid _ := hS2
      clear hS2 hbb
      have HI : Hid (Ints _ _ _ _) := hI
      have HE : Hid (Elems _ _ _ _) := hE
      have HBW : Hid (Below _ _ _) := hbw
      have hba : Below w.heap.size w (wr.alloc (.cells #[.int .i64 x, .int .i64 y, .int .i64 z, .bool v] 62)) := hbw.alloc hbw.size _
      have HBA : Hid (Below _ _ _) := hba
      have hblk : (wr.alloc (.cells #[.int .i64 x, .int .i64 y, .int .i64 z, .bool v] 62)).heap[wr.heap.size]? = some (.cells #[.int .i64 x, .int .i64 y, .int .i64 z, .bool v] 62) := heap_alloc_new wr _
      have HBLK : Hid _ := hblk
      clear hblk hI hE hbw hba
      go_upto_region 9 with fail
      go_cut [9] from 22 to 31 (fun bv wx => bv = .bool (behB b ⟨x, y, z, v⟩) ∧ wx = wr.alloc (.cells #[.int .i64 x, .int .i64 y, .int .i64 z, .bool v] 62))
      case first =>
        clear HS2 HI HE HBW HBLK HBA a0 a1 a2 a3
        cases v
        · cases b
          · go_wp2
            go_meet
            case rel => exact ⟨rfl, rfl⟩
          · by_cases hx : x = 0
            · subst hx
              go_wp2
              go_meet
              case rel => exact ⟨rfl, rfl⟩
            · have hx2 : (x == 0) = false := by simpa using hx
              have HXB : Hid (behB true ⟨x, y, z, false⟩ = false) := by show _ = _; unfold behB; simp [hx]
              go_wp2
              go_meet
              case rel => exact ⟨by rw [HXB.out], rfl⟩
        · go_wp2
          go_meet
          case rel => exact ⟨by cases b <;> rfl, rfl⟩
      case rest =>
        obtain ⟨rfl, rfl⟩ := hcut
        clear a0 a1 a2 a3
        have SH := fun u => shift_any ⟨x, y, z, v⟩ (behB b ⟨x, y, z, v⟩) u
        obtain ⟨bb, HBB⟩ : ∃ bb, Hid (behB b ⟨x, y, z, v⟩ = bb) := ⟨_, rfl⟩
        rw [HBB.out] at SH HS2
        rw [HBB.out]
        obtain ⟨n4, x', y', z', v', HP⟩ : ∃ n4 x' y' z' v', Hid (shE ⟨x, y, z, v⟩ bb = ((n4 : Int), (⟨x', y', z', v'⟩ : El))) := ⟨_, _, _, _, _, rfl⟩
        rw [HP.out] at SH HS2
        simp only at SH
        go_wp2_with fail
        refine (SH _).mono ?_
        rintro e w2 ⟨rfl, b2⟩
        clear SH
        have hb2 : w2.heap[wr.heap.size]? = some (.cells #[.int .i64 x, .int .i64 y, .int .i64 z, .bool v] 62) := (b2.block wr.heap.size (by simp)).trans HBLK.out
        have hlt2 : wr.heap.size < w2.heap.size := (Array.getElem?_eq_some_iff.1 hb2).1
        have d0 := cell_of_row _ _ 0 _ _ _ hb2
        have d1 := cell_of_row _ _ 1 _ _ _ hb2
        have d2 := cell_of_row _ _ 2 _ _ _ hb2
        have d3 := cell_of_row _ _ 3 _ _ _ hb2
        have f0 := frozen_row4 hb2
        obtain ⟨hblkz, hgz⟩ := set4_block hb2 (.int .i64 x') (.int .i64 y') (.int .i64 z') (.bool v')
        have hI2 := World.ownsRow.kept (World.ownsRow.alloc HI.out (.cells #[.int .i64 x, .int .i64 y, .int .i64 z, .bool v] 62)) (row := none) (below_grownBy4 b2 none) (by cases h : u7.ownBlock <;> simp)
        have hE2 := World.ownsRow.kept (World.ownsRow.alloc HE.out (.cells #[.int .i64 x, .int .i64 y, .int .i64 z, .bool v] 62)) (row := none) (below_grownBy4 b2 none) (by cases h : u8.ownBlock <;> simp)
        have hlowz : ∀ j, u7.ownBlock = some j → j < wr.heap.size := fun j hj => (World.ownsRow.lt HI.out j hj).2
        have hlowy : ∀ j, u8.ownBlock = some j → j < wr.heap.size := fun j hj => (World.ownsRow.lt HE.out j hj).2
        have hIz := World.ownsRow.kept hI2 hgz (by
          cases h : u7.ownBlock with
          | none => exact .inl rfl
          | some j => exact .inr fun c => by have := hlowz j h; have := Option.some.inj c; omega)
        have hEz := World.ownsRow.kept hE2 hgz (by
          cases h : u8.ownBlock with
          | none => exact .inl rfl
          | some j => exact .inr fun c => by have := hlowy j h; have := Option.some.inj c; omega)
        have hbz : Below w.heap.size w ((((w2.setCell ⟨wr.heap.size, 0, none⟩ (.int .i64 x')).setCell ⟨wr.heap.size, 1, none⟩ (.int .i64 y')).setCell ⟨wr.heap.size, 2, none⟩ (.int .i64 z')).setCell ⟨wr.heap.size, 3, none⟩ (.bool v')) := ((((HBA.out.trans (b2.mono HBA.out.size)).setCell HBW.out.size _).setCell HBW.out.size _).setCell HBW.out.size _).setCell HBW.out.size _
        have hltz : wr.heap.size < ((((w2.setCell ⟨wr.heap.size, 0, none⟩ (.int .i64 x')).setCell ⟨wr.heap.size, 1, none⟩ (.int .i64 y')).setCell ⟨wr.heap.size, 2, none⟩ (.int .i64 z')).setCell ⟨wr.heap.size, 3, none⟩ (.bool v')).heap.size := (Array.getElem?_eq_some_iff.1 hblkz).1
        clear b2 hb2 hI2 hE2 hgz
        have HHZ : Hid (_ = _) := hblkz
        have HBZ : Hid (Below _ _ _) := hbz
        have hszz := hbz.size
        clear hblkz hbz
        unfold Ints at *
        unfold Elems at *
        go_wp2_with (at_builtin; refine wpList_append_own _ rfl _ _ 53 rfl w.heap.size 3 i0 (.int .i64 0) 1 8 Tryz.underlying53 hi0 hz0 hs0 hy0 rfl (by decide) _ _ _ rfl (hIz.alloc _) ⟨w2.heap.size, 0, none⟩ 1 1 [.int .i64 n4] rfl rfl (cells1_at _ _ _ _ (by simp)) (fun u hu => by simp at hu; subst hu; rfl) (by unfold maxLen; omega) (by omega) (by simp; omega) ?_)
        intro v6' w4 ho4 hg4 _
        have hI4 : Ints w4 w.heap.size v6' (fs ++ [n4]) := Ints.snoc ho4
        have hE4 : Elems w4 w.heap.size u8 xs := World.ownsRow.kept (hEz.alloc _) hg4 (own_type hEz hIz (by decide))
        have hb4 : w4.heap[wr.heap.size]? = some (.cells #[.int .i64 x', .int .i64 y', .int .i64 z', .bool v'] 62) := by
          rw [hg4.block wr.heap.size (by simp; omega) (fun c => by have := hlowz wr.heap.size c.symm; omega), Below.heap_alloc _ _ _ hltz]; exact HHZ.out
        have hbw4 : Below w.heap.size w w4 := Below.grown (HBZ.out.alloc HBZ.out.size _) hg4 (HBZ.out.alloc HBZ.out.size _).size (fun j hj => (World.ownsRow.lt hIz j hj).1)
        have e0 := cell_of_row _ _ 0 _ _ _ hb4
        have e1 := cell_of_row _ _ 1 _ _ _ hb4
        have e2 := cell_of_row _ _ 2 _ _ _ hb4
        have e3 := cell_of_row _ _ 3 _ _ _ hb4
        have hsz4 := hbw4.size
        have HI4 : Hid (Ints _ _ _ _) := hI4
        have HB4 : Hid (Below _ _ _) := hbw4
        clear ho4 hg4 hb4 HBLK HHZ hlowz hIz hEz hI4 hbw4 HI HE HBW HBA HBZ
        unfold Elems at hE4
        go_wp2_with (at_builtin; refine wpList_append_own _ rfl _ _ 83 rfl w.heap.size 62 i1 _ 4 32 Tryz.underlying83 hi1 hz1 hs1 hy1 rfl (by decide) _ _ _ rfl (hE4.alloc _) ⟨w4.heap.size, 0, none⟩ 1 1 (elC (⟨x', y', z', v'⟩ : El)) rfl rfl (cells4_at _ _ (⟨x', y', z', v'⟩ : El) _ (by simp)) ?hone (by unfold maxLen; omega) (by omega) (by simp; omega) ?_)
        case hone =>
          intro u hu
          simp [elC] at hu
          rcases hu with rfl | rfl | rfl | rfl <;> rfl
        intro v7' w5 ho5 hg5 _
        have hE5 : Elems w5 w.heap.size v7' (xs ++ [(⟨x', y', z', v'⟩ : El)]) := Elems.snoc ho5
        have hI5 : Ints w5 w.heap.size v6' (fs ++ [n4]) := World.ownsRow.kept (World.ownsRow.alloc HI4.out _) hg5 (own_type HI4.out hE4 (by decide))
        have hbw5 : Below w.heap.size w w5 := Below.grown (HB4.out.alloc HB4.out.size _) hg5 (HB4.out.alloc HB4.out.size _).size (fun j hj => (World.ownsRow.lt hE4 j hj).1)
        have HE5 : Hid (Elems _ _ _ _) := hE5
        have HI5 : Hid (Ints _ _ _ _) := hI5
        have HB5 : Hid (Below _ _ _) := hbw5
        clear ho5 hg5 hE5 hI5 hbw5 HI4 HB4 e0 e1 e2 e3 hE4
        go_wp2
        exact ⟨⟨k + 1, _, _, _, _, hlt, by go_num, rfl, HS2.out, (fun _ => rfl), HI5.out, HE5.out, HB5.out⟩, by simp [intOf]; omega⟩
    · have hk3 : k = es.length := by omega
      subst hk3
      have HFN : Hid (fs = fourths true es ∧ xs = counted true es) := by
        show _ ∧ _
        unfold fourths counted
        rw [HF.out]
        exact ⟨rfl, rfl⟩
      have HI : Hid (Ints _ _ _ _) := hI
      have HE : Hid (Elems _ _ _ _) := hE
      have HB : Hid (Below _ _ _) := hbw
      clear hI hE hbw HF hL hbb
      go_wp2
      go_ret3
      obtain ⟨rfl, rfl⟩ := HFN.out
      exact ⟨_, _, rfl, HI.out, HE.out, HB.out⟩

set_option maxRecDepth 100000 in
set_option maxHeartbeats 1000000 in
theorem implFourth_nil (w : World) (sh : Bool) : Calls Tryz.prog 69 #[.slice none 0 0, .bool sh] w fun e w' => ∃ v v', e = .returned (.tuple #[v, v', .bool true]) ∧ Ints w' w.heap.size v [] ∧ Elems w' w.heap.size v' [] ∧ Below w.heap.size w w' := by
  go_enter Tryz.func69, Tryz.ntmps69
  go_wp2
  go_loopw [7, 8, 9, 18] (fun v6 v7 bv iv wr => v6 = .slice none 0 0 ∧ v7 = .slice none 0 0 ∧ bv = .bool false ∧ iv = .int .i64 0 ∧ wr = w) (fun _ _ _ _ _ => 0)
  case atStart => exact ⟨rfl, rfl, rfl, rfl, rfl⟩
  case round =>
    obtain ⟨rfl, rfl, rfl, rfl, rfl⟩ := hrel
    go_wp2
    go_ret3
    exact ⟨_, _, rfl, World.ownsRow_nil _ _ _ _, World.ownsRow_nil _ _ _ _, Below.refl _ _⟩

set_option maxRecDepth 100000 in
set_option maxHeartbeats 1000000 in
theorem implFourth_long (w : World) (a : Option Addr) (n c : Nat) (sh : Bool) (h : 1000 < n) : Calls Tryz.prog 69 #[.slice a n c, .bool sh] w fun e w' => ∃ v v', e = .returned (.tuple #[v, v', .bool false]) ∧ Ints w' w.heap.size v [] ∧ Elems w' w.heap.size v' [] ∧ Below w.heap.size w w' := by
  have h2 : (1000 : Int) < (n : Int) := by omega
  go_enter Tryz.func69, Tryz.ntmps69
  go_wp2
  go_ret3
  exact ⟨_, _, rfl, World.ownsRow_nil _ _ _ _, World.ownsRow_nil _ _ _ _, Below.refl _ _⟩

theorem implFourth_ok {w : World} {B : Nat} {v : Value} {es : List El} (sh : Bool) (hz : es.length ≤ 1000) (hL : Elems w B v es) :
    Calls Tryz.prog 69 #[v, .bool sh] w fun e w' => ∃ v v', e = .returned (.tuple #[v, v', .bool true]) ∧ Ints w' w.heap.size v (fourths sh es) ∧ Elems w' w.heap.size v' (counted sh es) ∧ Below w.heap.size w w' := by
  rcases hL.form with ⟨rfl, rfl⟩ | ⟨g, cap, rfl, _, _⟩
  · exact implFourth_nil w sh
  · cases sh
    · exact implFourth_plain w B g cap es hz hL
    · exact implFourth_shift w B g cap es hz hL
end Go.Proofs.YtanfebccenfffahGreatDoor

namespace Go.Proofs.YtanfebccenfffahGreatDoor
open Go.RowKit

theorem els_slice {w : World} {B : Nat} {v : Value} {es : List El} (h : Elems w B v es) :
    ∃ a c, v = .slice a es.length c ∧ ∀ k e, es[k]? = some e → ∃ g, a = some ⟨g, 0, none⟩ ∧ g < w.heap.size ∧ w.cell? ⟨g, k * 4, none⟩ = some (.int .i64 e.first) ∧ w.cell? ⟨g, k * 4 + 1, none⟩ = some (.int .i64 e.second) ∧ w.cell? ⟨g, k * 4 + 2, none⟩ = some (.int .i64 e.third) ∧ w.cell? ⟨g, k * 4 + 3, none⟩ = some (.bool e.varies) := by
  rcases h.form with ⟨rfl, rfl⟩ | ⟨g, cap, rfl, _, _⟩
  · exact ⟨_, _, rfl, fun k e he => by simp at he⟩
  · exact ⟨_, _, rfl, fun k e he => ⟨g, rfl, (World.ownsRow.lt h g rfl).2, h.cells k e he⟩⟩

theorem ints_slice {w : World} {B : Nat} {v : Value} {l : List Int} (h : Ints w B v l) :
    ∃ a c, v = .slice a l.length c ∧ ∀ k, k < l.length → ∃ g, a = some ⟨g, 0, none⟩ ∧ g < w.heap.size ∧ w.cell? ⟨g, k, none⟩ = some (.int .i64 (at0 l k)) := by
  rcases h.form with ⟨rfl, rfl⟩ | ⟨g, cap, rfl, _, _⟩
  · exact ⟨_, _, rfl, fun k hk => by simp at hk⟩
  · exact ⟨_, _, rfl, fun k hk => ⟨g, rfl, (World.ownsRow.lt h g rfl).2, h.cell k hk⟩⟩

theorem low_ints {w : World} {B B' : Nat} {v : Value} {l : List Int} (h : Ints w B' v l) (hB : B ≤ B') : Ints w B v l := by
  refine ⟨h.1, ?_⟩
  rcases h.2 with h | ⟨g, cap, cur, h1, h2, h3⟩
  · exact .inl h
  · exact .inr ⟨g, cap, cur, h1, Nat.le_trans hB h2, h3⟩

def WtRel (w1 : World) (lv : Nat) (xs : List El) (fs : List Int) (v i : Value) (wr : World) : Prop :=
  ∃ k : Nat, k ≤ xs.length ∧ i = .int .i64 k ∧ Ints wr w1.heap.size v (wtsK lv xs fs k) ∧ Below w1.heap.size w1 wr

theorem wtsK_zero {lv : Nat} {xs : List El} {fs : List Int} {k : Nat} (h : wtL lv (elAt xs k) (at0 fs k) = 0) : wtsK lv xs fs (k + 1) = wtsK lv xs fs k := by
  rw [wtsK, ifNot_zero h, List.append_nil]
theorem wtsK_some {lv : Nat} {xs : List El} {fs : List Int} {k : Nat} (h : wtL lv (elAt xs k) (at0 fs k) ≠ 0) : wtsK lv xs fs (k + 1) = wtsK lv xs fs k ++ [wtL lv (elAt xs k) (at0 fs k)] := by
  rw [wtsK, ifNot_some h]
theorem elAt_of {xs : List El} {k : Nat} {e : El} (h : xs[k]? = some e) : elAt xs k = e := by unfold elAt; rw [h]; rfl

set_option maxRecDepth 100000 in
set_option maxHeartbeats 1000000 in
theorem level1_any (ea : Option Addr) (en ec : Nat) (fa : Option Addr) (fn fc : Nat) (w : World) :
    Calls Tryz.prog 70 #[.agg #[.slice ea en ec, .slice fa fn fc], .int .i64 1] w fun e w' => e = .returned (.func (.func 81) #[] #[.pointer (some ⟨w.heap.size, 0, none⟩)]) ∧ w' = w.alloc (.cells #[.slice ea en ec, .slice fa fn fc] 93) := by
  go_enter Tryz.func70, Tryz.ntmps70
  go_wp2
  go_ret
  exact ⟨rfl, rfl⟩

set_option maxRecDepth 100000 in
set_option maxHeartbeats 1000000 in
theorem level2_any (ea : Option Addr) (en ec : Nat) (fa : Option Addr) (fn fc : Nat) (w : World) :
    Calls Tryz.prog 70 #[.agg #[.slice ea en ec, .slice fa fn fc], .int .i64 2] w fun e w' => e = .returned (.func (.func 82) #[] #[.pointer (some ⟨w.heap.size, 0, none⟩)]) ∧ w' = w.alloc (.cells #[.slice ea en ec, .slice fa fn fc] 93) := by
  go_enter Tryz.func70, Tryz.ntmps70
  go_wp2
  go_ret
  exact ⟨rfl, rfl⟩

set_option maxRecDepth 100000 in
set_option maxHeartbeats 1000000 in
theorem level3_any (ea : Option Addr) (en ec : Nat) (fa : Option Addr) (fn fc : Nat) (w : World) :
    Calls Tryz.prog 70 #[.agg #[.slice ea en ec, .slice fa fn fc], .int .i64 3] w fun e w' => e = .returned (.func (.func 83) #[] #[.pointer (some ⟨w.heap.size, 0, none⟩)]) ∧ w' = w.alloc (.cells #[.slice ea en ec, .slice fa fn fc] 93) := by
  go_enter Tryz.func70, Tryz.ntmps70
  go_wp2
  go_ret
  exact ⟨rfl, rfl⟩

set_option maxRecDepth 100000 in
set_option maxHeartbeats 1000000 in
theorem level4_any (ea : Option Addr) (en ec : Nat) (fa : Option Addr) (fn fc : Nat) (w : World) :
    Calls Tryz.prog 70 #[.agg #[.slice ea en ec, .slice fa fn fc], .int .i64 4] w fun e w' => e = .returned (.func (.func 84) #[] #[.pointer (some ⟨w.heap.size, 0, none⟩)]) ∧ w' = w.alloc (.cells #[.slice ea en ec, .slice fa fn fc] 93) := by
  go_enter Tryz.func70, Tryz.ntmps70
  go_wp2
  go_ret
  exact ⟨rfl, rfl⟩

set_option maxRecDepth 100000 in
set_option maxHeartbeats 1000000 in
theorem clos1_any (u : World) (b g n c k : Nat) (vf : Value) (x : Int) (hb : u.cell? ⟨b, 0, none⟩ = some (.slice (some ⟨g, 0, none⟩) n c)) (_hb2 : u.cell? ⟨b, 1, none⟩ = some vf) (hk : k < n) (hx : u.cell? ⟨g, k * 4, none⟩ = some (.int .i64 x)) :
    Calls Tryz.prog 81 #[.int .i64 k, .pointer (some ⟨b, 0, none⟩)] u fun e w' => e = .returned (.int .i64 x) ∧ w' = u := by
  have hk8 : (k : Int) < (n : Int) := by omega
  go_enter Tryz.func81, Tryz.ntmps81
  go_wp2
  go_ret
  exact ⟨rfl, rfl⟩

set_option maxRecDepth 100000 in
set_option maxHeartbeats 4000000 in
theorem weights1_any {w : World} {B B' : Nat} {ve vf : Value} {xs : List El} {fs : List Int} (hE : Elems w B ve xs) (hI : Ints w B' vf fs) (hl : fs.length = xs.length) (hn : xs.length ≤ 1048576) :
    Calls Tryz.prog 54 #[.agg #[ve, vf], .int .i64 1] w fun e w' => ∃ v, e = .returned v ∧ Ints w' w.heap.size v (wts 1 xs fs) ∧ Below w.heap.size w w' := by
  obtain ⟨i0, hi0, hz0, hs0, hy0⟩ := info_parts info_int
  obtain ⟨va, va2, rfl, hcE⟩ := els_slice hE
  obtain ⟨fa, fc, rfl, hcI⟩ := ints_slice hI
  have LV := fun u => level1_any va xs.length va2 fa fs.length fc u
  have hwb : Below w.heap.size w ((w.alloc (.cells #[.slice va xs.length va2, .slice fa fs.length fc] 93)).alloc (.cells #[.slice va xs.length va2, .slice fa fs.length fc] 93)) := ((Below.refl _ _).alloc (Nat.le_refl _) _).alloc (by simp) _
  have q0 : ((w.alloc (.cells #[.slice va xs.length va2, .slice fa fs.length fc] 93)).alloc (.cells #[.slice va xs.length va2, .slice fa fs.length fc] 93)).cell? ⟨w.heap.size + 1, 0, none⟩ = some (.slice va xs.length va2) := by simp
  have q1 : ((w.alloc (.cells #[.slice va xs.length va2, .slice fa fs.length fc] 93)).alloc (.cells #[.slice va xs.length va2, .slice fa fs.length fc] 93)).cell? ⟨w.heap.size + 1, 1, none⟩ = some (.slice fa fs.length fc) := by simp
  have HL : Hid (fs.length = xs.length) := hl
  clear hE hI hl
  obtain ⟨W, HW⟩ : ∃ W, Hid (W = (w.alloc (.cells #[.slice va xs.length va2, .slice fa fs.length fc] 93)).alloc (.cells #[.slice va xs.length va2, .slice fa fs.length fc] 93)) := ⟨_, rfl⟩
  have hWs : w.heap.size + 2 ≤ W.heap.size := by rw [HW.out]; simp
  rw [← HW.out] at hwb q0 q1
  have HQ : Hid (W.cell? ⟨w.heap.size + 1, 0, none⟩ = some (.slice va xs.length va2) ∧ W.cell? ⟨w.heap.size + 1, 1, none⟩ = some (.slice fa fs.length fc)) := ⟨q0, q1⟩
  clear q0 q1
  go_enter Tryz.func54, Tryz.ntmps54
  go_wp2_with fail
  refine (LV _).mono ?_
  rintro e w1 ⟨rfl, hw1⟩
  obtain rfl : W = w1 := HW.out.trans hw1.symm
  have z0 : W.cell? ⟨w.heap.size, 0, none⟩ = some (.slice va xs.length va2) := by rw [HW.out]; simp
  clear LV hw1 HW
  go_wp2_with fail
  go_loopw [6, 15] (fun v i wr => WtRel W 1 xs fs v i wr) (fun _ i _ => xs.length - (intOf i).toNat)
  case atStart => exact ⟨0, Nat.zero_le _, rfl, World.ownsRow_nil _ _ _ _, Below.refl _ _⟩
  case round =>
    clear z0
    obtain ⟨k, hk, rfl, hR, hbw⟩ := hrel
    have hrl := wtsK_len 1 xs fs k
    by_cases hlt : k < xs.length
    · have hk8 : (k : Int) < (xs.length : Int) := by omega
      have p0 : wr.cell? ⟨w.heap.size + 1, 0, none⟩ = some (.slice va xs.length va2) := (hbw.cell (p := ⟨w.heap.size + 1, 0, none⟩) (by show w.heap.size + 1 < W.heap.size; omega)).trans HQ.out.1
      have p1 : wr.cell? ⟨w.heap.size + 1, 1, none⟩ = some (.slice fa fs.length fc) := (hbw.cell (p := ⟨w.heap.size + 1, 1, none⟩) (by show w.heap.size + 1 < W.heap.size; omega)).trans HQ.out.2
      obtain ⟨e, he⟩ : ∃ e, xs[k]? = some e := ⟨_, List.getElem?_eq_getElem hlt⟩
      obtain ⟨g, hga, hgl, y1, y2, y3, _⟩ := hcE k e he
      subst hga
      have HV : Hid (wtL 1 (elAt xs k) (at0 fs k) = e.first) := by show _ = _; rw [elAt_of he]; rfl
      have CK := clos1_any wr (w.heap.size + 1) g xs.length va2 k (.slice fa fs.length fc) e.first p0 p1 hlt ((hbw.cell (p := ⟨g, k * 4, none⟩) (by show g < W.heap.size; omega)).trans (by simpa using (hwb.cell (p := ⟨g, k * 4, none⟩) hgl).trans y1))
      clear y1 hcE hcI p0 p1
      go_wp2_with fail
      refine CK.mono ?_
      rintro e' w3 ⟨rfl, hw3⟩
      obtain rfl : wr = w3 := hw3.symm
      clear CK
      have hsz := hbw.size
      by_cases h0 : e.first = 0
      · have HS : Hid (wtsK 1 xs fs (k + 1) = wtsK 1 xs fs k) := wtsK_zero (HV.out.trans h0)
        have HR : Hid (Ints _ _ _ _) := hR
        clear hR HV
        go_wp2
        exact ⟨⟨k + 1, by omega, by go_num, by rw [HS.out]; exact HR.out, hbw⟩, by simp [intOf]; omega⟩
      · have h0' : (e.first == 0) = false := by simpa using h0
        have HS : Hid (wtsK 1 xs fs (k + 1) = wtsK 1 xs fs k ++ [e.first]) := by
          have := wtsK_some (lv := 1) (xs := xs) (fs := fs) (k := k) (by rw [HV.out]; exact h0)
          rw [HV.out] at this
          exact this
        clear HV
        unfold Ints at hR
        go_wp2_with (at_builtin; refine wpList_append_own _ rfl _ _ 53 rfl W.heap.size 3 i0 (.int .i64 0) 1 8 Tryz.underlying53 hi0 hz0 hs0 hy0 rfl (by decide) _ _ _ rfl (hR.alloc _) ⟨wr.heap.size, 0, none⟩ 1 1 [.int .i64 (e.first)] rfl rfl (cells1_at _ _ _ _ (by simp)) (fun u hu => by simp at hu; subst hu; rfl) (by unfold maxLen; omega) (by omega) (by simp; omega) ?_)
        intro v6 w4 ho4 hg4 _
        have hI4 : Ints w4 W.heap.size v6 (wtsK 1 xs fs k ++ [e.first]) := Ints.snoc ho4
        have hb4 : Below W.heap.size W w4 := Below.grown (hbw.alloc hbw.size _) hg4 (hbw.alloc hbw.size _).size (fun j hj => (World.ownsRow.lt hR j hj).1)
        have HI4 : Hid (Ints _ _ _ _) := hI4
        clear ho4 hg4 hR hI4
        go_wp2
        exact ⟨⟨k + 1, by omega, by go_num, by rw [HS.out]; exact HI4.out, hb4⟩, by simp [intOf]; omega⟩
    · have hk3 : k = xs.length := by omega
      subst hk3
      have HR : Hid (Ints _ _ _ _) := hR
      clear hR
      go_wp2
      go_ret
      exact ⟨_, rfl, low_ints HR.out (by omega), hwb.trans (hbw.mono (by omega))⟩

set_option maxRecDepth 100000 in
set_option maxHeartbeats 1000000 in
theorem clos2_any (u : World) (b g n c k : Nat) (vf : Value) (x : Int) (hb : u.cell? ⟨b, 0, none⟩ = some (.slice (some ⟨g, 0, none⟩) n c)) (_hb2 : u.cell? ⟨b, 1, none⟩ = some vf) (hk : k < n) (hx : u.cell? ⟨g, k * 4 + 1, none⟩ = some (.int .i64 x)) :
    Calls Tryz.prog 82 #[.int .i64 k, .pointer (some ⟨b, 0, none⟩)] u fun e w' => e = .returned (.int .i64 x) ∧ w' = u := by
  have hk8 : (k : Int) < (n : Int) := by omega
  go_enter Tryz.func82, Tryz.ntmps82
  go_wp2
  go_ret
  exact ⟨rfl, rfl⟩

set_option maxRecDepth 100000 in
set_option maxHeartbeats 4000000 in
theorem weights2_any {w : World} {B B' : Nat} {ve vf : Value} {xs : List El} {fs : List Int} (hE : Elems w B ve xs) (hI : Ints w B' vf fs) (hl : fs.length = xs.length) (hn : xs.length ≤ 1048576) :
    Calls Tryz.prog 54 #[.agg #[ve, vf], .int .i64 2] w fun e w' => ∃ v, e = .returned v ∧ Ints w' w.heap.size v (wts 2 xs fs) ∧ Below w.heap.size w w' := by
  obtain ⟨i0, hi0, hz0, hs0, hy0⟩ := info_parts info_int
  obtain ⟨va, va2, rfl, hcE⟩ := els_slice hE
  obtain ⟨fa, fc, rfl, hcI⟩ := ints_slice hI
  have LV := fun u => level2_any va xs.length va2 fa fs.length fc u
  have hwb : Below w.heap.size w ((w.alloc (.cells #[.slice va xs.length va2, .slice fa fs.length fc] 93)).alloc (.cells #[.slice va xs.length va2, .slice fa fs.length fc] 93)) := ((Below.refl _ _).alloc (Nat.le_refl _) _).alloc (by simp) _
  have q0 : ((w.alloc (.cells #[.slice va xs.length va2, .slice fa fs.length fc] 93)).alloc (.cells #[.slice va xs.length va2, .slice fa fs.length fc] 93)).cell? ⟨w.heap.size + 1, 0, none⟩ = some (.slice va xs.length va2) := by simp
  have q1 : ((w.alloc (.cells #[.slice va xs.length va2, .slice fa fs.length fc] 93)).alloc (.cells #[.slice va xs.length va2, .slice fa fs.length fc] 93)).cell? ⟨w.heap.size + 1, 1, none⟩ = some (.slice fa fs.length fc) := by simp
  have HL : Hid (fs.length = xs.length) := hl
  clear hE hI hl
  obtain ⟨W, HW⟩ : ∃ W, Hid (W = (w.alloc (.cells #[.slice va xs.length va2, .slice fa fs.length fc] 93)).alloc (.cells #[.slice va xs.length va2, .slice fa fs.length fc] 93)) := ⟨_, rfl⟩
  have hWs : w.heap.size + 2 ≤ W.heap.size := by rw [HW.out]; simp
  rw [← HW.out] at hwb q0 q1
  have HQ : Hid (W.cell? ⟨w.heap.size + 1, 0, none⟩ = some (.slice va xs.length va2) ∧ W.cell? ⟨w.heap.size + 1, 1, none⟩ = some (.slice fa fs.length fc)) := ⟨q0, q1⟩
  clear q0 q1
  go_enter Tryz.func54, Tryz.ntmps54
  go_wp2_with fail
  refine (LV _).mono ?_
  rintro e w1 ⟨rfl, hw1⟩
  obtain rfl : W = w1 := HW.out.trans hw1.symm
  have z0 : W.cell? ⟨w.heap.size, 0, none⟩ = some (.slice va xs.length va2) := by rw [HW.out]; simp
  clear LV hw1 HW
  go_wp2_with fail
  go_loopw [6, 15] (fun v i wr => WtRel W 2 xs fs v i wr) (fun _ i _ => xs.length - (intOf i).toNat)
  case atStart => exact ⟨0, Nat.zero_le _, rfl, World.ownsRow_nil _ _ _ _, Below.refl _ _⟩
  case round =>
    clear z0
    obtain ⟨k, hk, rfl, hR, hbw⟩ := hrel
    have hrl := wtsK_len 2 xs fs k
    by_cases hlt : k < xs.length
    · have hk8 : (k : Int) < (xs.length : Int) := by omega
      have p0 : wr.cell? ⟨w.heap.size + 1, 0, none⟩ = some (.slice va xs.length va2) := (hbw.cell (p := ⟨w.heap.size + 1, 0, none⟩) (by show w.heap.size + 1 < W.heap.size; omega)).trans HQ.out.1
      have p1 : wr.cell? ⟨w.heap.size + 1, 1, none⟩ = some (.slice fa fs.length fc) := (hbw.cell (p := ⟨w.heap.size + 1, 1, none⟩) (by show w.heap.size + 1 < W.heap.size; omega)).trans HQ.out.2
      obtain ⟨e, he⟩ : ∃ e, xs[k]? = some e := ⟨_, List.getElem?_eq_getElem hlt⟩
      obtain ⟨g, hga, hgl, y1, y2, y3, _⟩ := hcE k e he
      subst hga
      have HV : Hid (wtL 2 (elAt xs k) (at0 fs k) = e.second) := by show _ = _; rw [elAt_of he]; rfl
      have CK := clos2_any wr (w.heap.size + 1) g xs.length va2 k (.slice fa fs.length fc) e.second p0 p1 hlt ((hbw.cell (p := ⟨g, k * 4 + 1, none⟩) (by show g < W.heap.size; omega)).trans (by simpa using (hwb.cell (p := ⟨g, k * 4 + 1, none⟩) hgl).trans y2))
      clear y1 hcE hcI p0 p1
      go_wp2_with fail
      refine CK.mono ?_
      rintro e' w3 ⟨rfl, hw3⟩
      obtain rfl : wr = w3 := hw3.symm
      clear CK
      have hsz := hbw.size
      by_cases h0 : e.second = 0
      · have HS : Hid (wtsK 2 xs fs (k + 1) = wtsK 2 xs fs k) := wtsK_zero (HV.out.trans h0)
        have HR : Hid (Ints _ _ _ _) := hR
        clear hR HV
        go_wp2
        exact ⟨⟨k + 1, by omega, by go_num, by rw [HS.out]; exact HR.out, hbw⟩, by simp [intOf]; omega⟩
      · have h0' : (e.second == 0) = false := by simpa using h0
        have HS : Hid (wtsK 2 xs fs (k + 1) = wtsK 2 xs fs k ++ [e.second]) := by
          have := wtsK_some (lv := 2) (xs := xs) (fs := fs) (k := k) (by rw [HV.out]; exact h0)
          rw [HV.out] at this
          exact this
        clear HV
        unfold Ints at hR
        go_wp2_with (at_builtin; refine wpList_append_own _ rfl _ _ 53 rfl W.heap.size 3 i0 (.int .i64 0) 1 8 Tryz.underlying53 hi0 hz0 hs0 hy0 rfl (by decide) _ _ _ rfl (hR.alloc _) ⟨wr.heap.size, 0, none⟩ 1 1 [.int .i64 (e.second)] rfl rfl (cells1_at _ _ _ _ (by simp)) (fun u hu => by simp at hu; subst hu; rfl) (by unfold maxLen; omega) (by omega) (by simp; omega) ?_)
        intro v6 w4 ho4 hg4 _
        have hI4 : Ints w4 W.heap.size v6 (wtsK 2 xs fs k ++ [e.second]) := Ints.snoc ho4
        have hb4 : Below W.heap.size W w4 := Below.grown (hbw.alloc hbw.size _) hg4 (hbw.alloc hbw.size _).size (fun j hj => (World.ownsRow.lt hR j hj).1)
        have HI4 : Hid (Ints _ _ _ _) := hI4
        clear ho4 hg4 hR hI4
        go_wp2
        exact ⟨⟨k + 1, by omega, by go_num, by rw [HS.out]; exact HI4.out, hb4⟩, by simp [intOf]; omega⟩
    · have hk3 : k = xs.length := by omega
      subst hk3
      have HR : Hid (Ints _ _ _ _) := hR
      clear hR
      go_wp2
      go_ret
      exact ⟨_, rfl, low_ints HR.out (by omega), hwb.trans (hbw.mono (by omega))⟩

set_option maxRecDepth 100000 in
set_option maxHeartbeats 1000000 in
theorem clos3_any (u : World) (b g n c k : Nat) (vf : Value) (x : Int) (hb : u.cell? ⟨b, 0, none⟩ = some (.slice (some ⟨g, 0, none⟩) n c)) (_hb2 : u.cell? ⟨b, 1, none⟩ = some vf) (hk : k < n) (hx : u.cell? ⟨g, k * 4 + 2, none⟩ = some (.int .i64 x)) :
    Calls Tryz.prog 83 #[.int .i64 k, .pointer (some ⟨b, 0, none⟩)] u fun e w' => e = .returned (.int .i64 x) ∧ w' = u := by
  have hk8 : (k : Int) < (n : Int) := by omega
  go_enter Tryz.func83, Tryz.ntmps83
  go_wp2
  go_ret
  exact ⟨rfl, rfl⟩

set_option maxRecDepth 100000 in
set_option maxHeartbeats 4000000 in
theorem weights3_any {w : World} {B B' : Nat} {ve vf : Value} {xs : List El} {fs : List Int} (hE : Elems w B ve xs) (hI : Ints w B' vf fs) (hl : fs.length = xs.length) (hn : xs.length ≤ 1048576) :
    Calls Tryz.prog 54 #[.agg #[ve, vf], .int .i64 3] w fun e w' => ∃ v, e = .returned v ∧ Ints w' w.heap.size v (wts 3 xs fs) ∧ Below w.heap.size w w' := by
  obtain ⟨i0, hi0, hz0, hs0, hy0⟩ := info_parts info_int
  obtain ⟨va, va2, rfl, hcE⟩ := els_slice hE
  obtain ⟨fa, fc, rfl, hcI⟩ := ints_slice hI
  have LV := fun u => level3_any va xs.length va2 fa fs.length fc u
  have hwb : Below w.heap.size w ((w.alloc (.cells #[.slice va xs.length va2, .slice fa fs.length fc] 93)).alloc (.cells #[.slice va xs.length va2, .slice fa fs.length fc] 93)) := ((Below.refl _ _).alloc (Nat.le_refl _) _).alloc (by simp) _
  have q0 : ((w.alloc (.cells #[.slice va xs.length va2, .slice fa fs.length fc] 93)).alloc (.cells #[.slice va xs.length va2, .slice fa fs.length fc] 93)).cell? ⟨w.heap.size + 1, 0, none⟩ = some (.slice va xs.length va2) := by simp
  have q1 : ((w.alloc (.cells #[.slice va xs.length va2, .slice fa fs.length fc] 93)).alloc (.cells #[.slice va xs.length va2, .slice fa fs.length fc] 93)).cell? ⟨w.heap.size + 1, 1, none⟩ = some (.slice fa fs.length fc) := by simp
  have HL : Hid (fs.length = xs.length) := hl
  clear hE hI hl
  obtain ⟨W, HW⟩ : ∃ W, Hid (W = (w.alloc (.cells #[.slice va xs.length va2, .slice fa fs.length fc] 93)).alloc (.cells #[.slice va xs.length va2, .slice fa fs.length fc] 93)) := ⟨_, rfl⟩
  have hWs : w.heap.size + 2 ≤ W.heap.size := by rw [HW.out]; simp
  rw [← HW.out] at hwb q0 q1
  have HQ : Hid (W.cell? ⟨w.heap.size + 1, 0, none⟩ = some (.slice va xs.length va2) ∧ W.cell? ⟨w.heap.size + 1, 1, none⟩ = some (.slice fa fs.length fc)) := ⟨q0, q1⟩
  clear q0 q1
  go_enter Tryz.func54, Tryz.ntmps54
  go_wp2_with fail
  refine (LV _).mono ?_
  rintro e w1 ⟨rfl, hw1⟩
  obtain rfl : W = w1 := HW.out.trans hw1.symm
  have z0 : W.cell? ⟨w.heap.size, 0, none⟩ = some (.slice va xs.length va2) := by rw [HW.out]; simp
  clear LV hw1 HW
  go_wp2_with fail
  go_loopw [6, 15] (fun v i wr => WtRel W 3 xs fs v i wr) (fun _ i _ => xs.length - (intOf i).toNat)
  case atStart => exact ⟨0, Nat.zero_le _, rfl, World.ownsRow_nil _ _ _ _, Below.refl _ _⟩
  case round =>
    clear z0
    obtain ⟨k, hk, rfl, hR, hbw⟩ := hrel
    have hrl := wtsK_len 3 xs fs k
    by_cases hlt : k < xs.length
    · have hk8 : (k : Int) < (xs.length : Int) := by omega
      have p0 : wr.cell? ⟨w.heap.size + 1, 0, none⟩ = some (.slice va xs.length va2) := (hbw.cell (p := ⟨w.heap.size + 1, 0, none⟩) (by show w.heap.size + 1 < W.heap.size; omega)).trans HQ.out.1
      have p1 : wr.cell? ⟨w.heap.size + 1, 1, none⟩ = some (.slice fa fs.length fc) := (hbw.cell (p := ⟨w.heap.size + 1, 1, none⟩) (by show w.heap.size + 1 < W.heap.size; omega)).trans HQ.out.2
      obtain ⟨e, he⟩ : ∃ e, xs[k]? = some e := ⟨_, List.getElem?_eq_getElem hlt⟩
      obtain ⟨g, hga, hgl, y1, y2, y3, _⟩ := hcE k e he
      subst hga
      have HV : Hid (wtL 3 (elAt xs k) (at0 fs k) = e.third) := by show _ = _; rw [elAt_of he]; rfl
      have CK := clos3_any wr (w.heap.size + 1) g xs.length va2 k (.slice fa fs.length fc) e.third p0 p1 hlt ((hbw.cell (p := ⟨g, k * 4 + 2, none⟩) (by show g < W.heap.size; omega)).trans (by simpa using (hwb.cell (p := ⟨g, k * 4 + 2, none⟩) hgl).trans y3))
      clear y1 hcE hcI p0 p1
      go_wp2_with fail
      refine CK.mono ?_
      rintro e' w3 ⟨rfl, hw3⟩
      obtain rfl : wr = w3 := hw3.symm
      clear CK
      have hsz := hbw.size
      by_cases h0 : e.third = 0
      · have HS : Hid (wtsK 3 xs fs (k + 1) = wtsK 3 xs fs k) := wtsK_zero (HV.out.trans h0)
        have HR : Hid (Ints _ _ _ _) := hR
        clear hR HV
        go_wp2
        exact ⟨⟨k + 1, by omega, by go_num, by rw [HS.out]; exact HR.out, hbw⟩, by simp [intOf]; omega⟩
      · have h0' : (e.third == 0) = false := by simpa using h0
        have HS : Hid (wtsK 3 xs fs (k + 1) = wtsK 3 xs fs k ++ [e.third]) := by
          have := wtsK_some (lv := 3) (xs := xs) (fs := fs) (k := k) (by rw [HV.out]; exact h0)
          rw [HV.out] at this
          exact this
        clear HV
        unfold Ints at hR
        go_wp2_with (at_builtin; refine wpList_append_own _ rfl _ _ 53 rfl W.heap.size 3 i0 (.int .i64 0) 1 8 Tryz.underlying53 hi0 hz0 hs0 hy0 rfl (by decide) _ _ _ rfl (hR.alloc _) ⟨wr.heap.size, 0, none⟩ 1 1 [.int .i64 (e.third)] rfl rfl (cells1_at _ _ _ _ (by simp)) (fun u hu => by simp at hu; subst hu; rfl) (by unfold maxLen; omega) (by omega) (by simp; omega) ?_)
        intro v6 w4 ho4 hg4 _
        have hI4 : Ints w4 W.heap.size v6 (wtsK 3 xs fs k ++ [e.third]) := Ints.snoc ho4
        have hb4 : Below W.heap.size W w4 := Below.grown (hbw.alloc hbw.size _) hg4 (hbw.alloc hbw.size _).size (fun j hj => (World.ownsRow.lt hR j hj).1)
        have HI4 : Hid (Ints _ _ _ _) := hI4
        clear ho4 hg4 hR hI4
        go_wp2
        exact ⟨⟨k + 1, by omega, by go_num, by rw [HS.out]; exact HI4.out, hb4⟩, by simp [intOf]; omega⟩
    · have hk3 : k = xs.length := by omega
      subst hk3
      have HR : Hid (Ints _ _ _ _) := hR
      clear hR
      go_wp2
      go_ret
      exact ⟨_, rfl, low_ints HR.out (by omega), hwb.trans (hbw.mono (by omega))⟩

set_option maxRecDepth 100000 in
set_option maxHeartbeats 1000000 in
theorem clos4_any (u : World) (b g n c k : Nat) (ve : Value) (x : Int) (_hb2 : u.cell? ⟨b, 0, none⟩ = some ve) (hb : u.cell? ⟨b, 1, none⟩ = some (.slice (some ⟨g, 0, none⟩) n c)) (hk : k < n) (hx : u.cell? ⟨g, k, none⟩ = some (.int .i64 x)) :
    Calls Tryz.prog 84 #[.int .i64 k, .pointer (some ⟨b, 0, none⟩)] u fun e w' => e = .returned (.int .i64 x) ∧ w' = u := by
  have hk8 : (k : Int) < (n : Int) := by omega
  go_enter Tryz.func84, Tryz.ntmps84
  go_wp2
  go_ret
  exact ⟨rfl, rfl⟩

set_option maxRecDepth 100000 in
set_option maxHeartbeats 4000000 in
theorem weights4_any {w : World} {B B' : Nat} {ve vf : Value} {xs : List El} {fs : List Int} (hE : Elems w B ve xs) (hI : Ints w B' vf fs) (hl : fs.length = xs.length) (hn : xs.length ≤ 1048576) :
    Calls Tryz.prog 54 #[.agg #[ve, vf], .int .i64 4] w fun e w' => ∃ v, e = .returned v ∧ Ints w' w.heap.size v (wts 4 xs fs) ∧ Below w.heap.size w w' := by
  obtain ⟨i0, hi0, hz0, hs0, hy0⟩ := info_parts info_int
  obtain ⟨va, va2, rfl, hcE⟩ := els_slice hE
  obtain ⟨fa, fc, rfl, hcI⟩ := ints_slice hI
  have LV := fun u => level4_any va xs.length va2 fa fs.length fc u
  have hwb : Below w.heap.size w ((w.alloc (.cells #[.slice va xs.length va2, .slice fa fs.length fc] 93)).alloc (.cells #[.slice va xs.length va2, .slice fa fs.length fc] 93)) := ((Below.refl _ _).alloc (Nat.le_refl _) _).alloc (by simp) _
  have q0 : ((w.alloc (.cells #[.slice va xs.length va2, .slice fa fs.length fc] 93)).alloc (.cells #[.slice va xs.length va2, .slice fa fs.length fc] 93)).cell? ⟨w.heap.size + 1, 0, none⟩ = some (.slice va xs.length va2) := by simp
  have q1 : ((w.alloc (.cells #[.slice va xs.length va2, .slice fa fs.length fc] 93)).alloc (.cells #[.slice va xs.length va2, .slice fa fs.length fc] 93)).cell? ⟨w.heap.size + 1, 1, none⟩ = some (.slice fa fs.length fc) := by simp
  have HL : Hid (fs.length = xs.length) := hl
  clear hE hI hl
  obtain ⟨W, HW⟩ : ∃ W, Hid (W = (w.alloc (.cells #[.slice va xs.length va2, .slice fa fs.length fc] 93)).alloc (.cells #[.slice va xs.length va2, .slice fa fs.length fc] 93)) := ⟨_, rfl⟩
  have hWs : w.heap.size + 2 ≤ W.heap.size := by rw [HW.out]; simp
  rw [← HW.out] at hwb q0 q1
  have HQ : Hid (W.cell? ⟨w.heap.size + 1, 0, none⟩ = some (.slice va xs.length va2) ∧ W.cell? ⟨w.heap.size + 1, 1, none⟩ = some (.slice fa fs.length fc)) := ⟨q0, q1⟩
  clear q0 q1
  go_enter Tryz.func54, Tryz.ntmps54
  go_wp2_with fail
  refine (LV _).mono ?_
  rintro e w1 ⟨rfl, hw1⟩
  obtain rfl : W = w1 := HW.out.trans hw1.symm
  have z0 : W.cell? ⟨w.heap.size, 0, none⟩ = some (.slice va xs.length va2) := by rw [HW.out]; simp
  clear LV hw1 HW
  go_wp2_with fail
  go_loopw [6, 15] (fun v i wr => WtRel W 4 xs fs v i wr) (fun _ i _ => xs.length - (intOf i).toNat)
  case atStart => exact ⟨0, Nat.zero_le _, rfl, World.ownsRow_nil _ _ _ _, Below.refl _ _⟩
  case round =>
    clear z0
    obtain ⟨k, hk, rfl, hR, hbw⟩ := hrel
    have hrl := wtsK_len 4 xs fs k
    by_cases hlt : k < xs.length
    · have hk8 : (k : Int) < (xs.length : Int) := by omega
      have p0 : wr.cell? ⟨w.heap.size + 1, 0, none⟩ = some (.slice va xs.length va2) := (hbw.cell (p := ⟨w.heap.size + 1, 0, none⟩) (by show w.heap.size + 1 < W.heap.size; omega)).trans HQ.out.1
      have p1 : wr.cell? ⟨w.heap.size + 1, 1, none⟩ = some (.slice fa fs.length fc) := (hbw.cell (p := ⟨w.heap.size + 1, 1, none⟩) (by show w.heap.size + 1 < W.heap.size; omega)).trans HQ.out.2
      have hkf : k < fs.length := by have := HL.out; omega
      obtain ⟨g, hga, hgl, y1⟩ := hcI k hkf
      subst hga
      have HV : Hid (wtL 4 (elAt xs k) (at0 fs k) = at0 fs k) := by show _ = _; rfl
      have CK := clos4_any wr (w.heap.size + 1) g fs.length fc k (.slice va xs.length va2) (at0 fs k) p0 p1 hkf ((hbw.cell (p := ⟨g, k, none⟩) (by show g < W.heap.size; omega)).trans (by simpa using (hwb.cell (p := ⟨g, k, none⟩) hgl).trans y1))
      clear y1 hcE hcI p0 p1
      go_wp2_with fail
      refine CK.mono ?_
      rintro e' w3 ⟨rfl, hw3⟩
      obtain rfl : wr = w3 := hw3.symm
      clear CK
      have hsz := hbw.size
      by_cases h0 : at0 fs k = 0
      · have HS : Hid (wtsK 4 xs fs (k + 1) = wtsK 4 xs fs k) := wtsK_zero (HV.out.trans h0)
        have HR : Hid (Ints _ _ _ _) := hR
        clear hR HV
        go_wp2
        exact ⟨⟨k + 1, by omega, by go_num, by rw [HS.out]; exact HR.out, hbw⟩, by simp [intOf]; omega⟩
      · have h0' : (at0 fs k == 0) = false := by simpa using h0
        have HS : Hid (wtsK 4 xs fs (k + 1) = wtsK 4 xs fs k ++ [at0 fs k]) := by
          have := wtsK_some (lv := 4) (xs := xs) (fs := fs) (k := k) (by rw [HV.out]; exact h0)
          rw [HV.out] at this
          exact this
        clear HV
        unfold Ints at hR
        go_wp2_with (at_builtin; refine wpList_append_own _ rfl _ _ 53 rfl W.heap.size 3 i0 (.int .i64 0) 1 8 Tryz.underlying53 hi0 hz0 hs0 hy0 rfl (by decide) _ _ _ rfl (hR.alloc _) ⟨wr.heap.size, 0, none⟩ 1 1 [.int .i64 (at0 fs k)] rfl rfl (cells1_at _ _ _ _ (by simp)) (fun u hu => by simp at hu; subst hu; rfl) (by unfold maxLen; omega) (by omega) (by simp; omega) ?_)
        intro v6 w4 ho4 hg4 _
        have hI4 : Ints w4 W.heap.size v6 (wtsK 4 xs fs k ++ [at0 fs k]) := Ints.snoc ho4
        have hb4 : Below W.heap.size W w4 := Below.grown (hbw.alloc hbw.size _) hg4 (hbw.alloc hbw.size _).size (fun j hj => (World.ownsRow.lt hR j hj).1)
        have HI4 : Hid (Ints _ _ _ _) := hI4
        clear ho4 hg4 hR hI4
        go_wp2
        exact ⟨⟨k + 1, by omega, by go_num, by rw [HS.out]; exact HI4.out, hb4⟩, by simp [intOf]; omega⟩
    · have hk3 : k = xs.length := by omega
      subst hk3
      have HR : Hid (Ints _ _ _ _) := hR
      clear hR
      go_wp2
      go_ret
      exact ⟨_, rfl, low_ints HR.out (by omega), hwb.trans (hbw.mono (by omega))⟩
end Go.Proofs.YtanfebccenfffahGreatDoor

namespace Go.Proofs.YtanfebccenfffahGreatDoor

theorem nD_len200 {zs : List Int} (h : okR zs = true) : (nD zs).length ≤ 1800 := by
  have h6 := (okR_true h).1
  have h7 := apD_len zs
  rw [nD_len]; omega

/-- What IsNormalD tells of a list. -/
def isD (zs : List Int) : Bool := okR zs && decide (nD zs = zs)
/-- What SameRunes tells of two. -/
def sameD (zs ys : List Int) : Bool := okR zs && okR ys && decide (nD zs = nD ys)
end Go.Proofs.YtanfebccenfffahGreatDoor

namespace Go.Proofs.YtanfebccenfffahGreatDoor
open Go.RowKit

def capA : Array Value := (capF.map (Value.int .i64)).toArray
def othA : Array Value := (othF.map (Value.int .i64)).toArray

/-- A pair as a value. -/
def pv (t : List Int) : Value := .agg #[.int .i64 (at0 t 0), .int .i64 (at0 t 1), .int .i64 (at0 t 2)]

theorem cap_index (k : Nat) (hk : k < 26) (w : World) : (Instr.index 154 (.agg capA) (.int .i64 k)).run Tryz.prog w = .ok (.agg #[.int .i64 (at0 (capT.getD k []) 0), .int .i64 (at0 (capT.getD k []) 1), .int .i64 (at0 (capT.getD k []) 2)]) w := by
  iterate 26 (rcases k with _ | k; · kernel_rfl)
  omega

theorem oth_index (k : Nat) (hk : k < 5) (w : World) : (Instr.index 156 (.agg othA) (.int .i64 k)).run Tryz.prog w = .ok (.agg #[.int .i64 (at0 (othT.getD k []) 0), .int .i64 (at0 (othT.getD k []) 1), .int .i64 (at0 (othT.getD k []) 2)]) w := by
  iterate 5 (rcases k with _ | k; · kernel_rfl)
  omega

theorem tabI_cap : ∀ k ∈ List.range 26, tabI[2 * k]? = some [at0 (capT.getD k []) 0, at0 (capT.getD k []) 1, at0 (capT.getD k []) 2] ∧ tabI[2 * k + 1]? = some [at0 (capT.getD k []) 0 + 32, at0 (capT.getD k []) 1 + 32, at0 (capT.getD k []) 2] := by decide +kernel
theorem tabI_oth : ∀ k ∈ List.range 5, tabI[52 + k]? = some [at0 (othT.getD k []) 0, at0 (othT.getD k []) 1, at0 (othT.getD k []) 2] := by decide +kernel
theorem cap_bound : ∀ k ∈ List.range 26, (0 ≤ at0 (capT.getD k []) 0 ∧ at0 (capT.getD k []) 0 ≤ 300) ∧ 0 ≤ at0 (capT.getD k []) 1 ∧ at0 (capT.getD k []) 1 ≤ 300 := by decide +kernel
theorem tabI_len : tabI.length = 57 := by decide +kernel

/-- No row ahead of place k is the one looked for. -/
def NoneI (p : List Int → Bool) (k : Nat) : Prop := ∀ j t, j < k → tabI[j]? = some t → p t = false

theorem NoneI.succ {p : List Int → Bool} {k : Nat} {t : List Int} (h : NoneI p k) (ht : tabI[k]? = some t) (hp : p t = false) : NoneI p (k + 1) := by
  intro j u hj hu
  by_cases e : j = k
  · subst e; rw [ht] at hu; cases hu; exact hp
  · exact h j u (by omega) hu

theorem findI_at {p : List Int → Bool} {k : Nat} {t : List Int} (h : NoneI p k) (ht : tabI[k]? = some t) (hp : p t = true) : tabI.find? p = some t := by
  rw [List.find?_eq_some_iff_getElem]
  obtain ⟨hk, e⟩ := List.getElem?_eq_some_iff.1 ht
  refine ⟨hp, k, hk, e, fun j hj => ?_⟩
  have := h j tabI[j] hj (List.getElem?_eq_getElem (by omega))
  simpa using this

theorem findI_no {p : List Int → Bool} {k : Nat} (h : NoneI p k) (hk : 57 ≤ k) : tabI.find? p = none := by
  rw [List.find?_eq_none]
  intro t ht
  obtain ⟨j, hj⟩ := List.mem_iff_getElem?.1 ht
  have h1 := (List.getElem?_eq_some_iff.1 hj).1
  have h2 := tabI_len
  simpa using h j t (by omega) hj

set_option maxRecDepth 100000 in
set_option maxHeartbeats 1000000 in
theorem small_any (w : World) (a b c : Int) (ha : 0 ≤ a ∧ a ≤ 300) (hb : 0 ≤ b ∧ b ≤ 300) :
    Calls Tryz.prog 110 #[.agg #[.int .i64 a, .int .i64 b, .int .i64 c]] w fun e w' => e = .returned (.agg #[.int .i64 (a + 32), .int .i64 (b + 32), .int .i64 c]) ∧ Below w.heap.size w w' := by
  have hw1 : IntKind.i64.wrap (a + 32) = a + 32 := by rw [IntKind.wrap_i64]; omega
  have hw2 : IntKind.i64.wrap (b + 32) = b + 32 := by rw [IntKind.wrap_i64]; omega
  go_enter Tryz.func110, Tryz.ntmps110
  go_wp2
  refine bodyPost_ret (v := .agg #[.int .i64 (a + 32), .int .i64 (b + 32), .int .i64 c]) ?_ rfl ⟨rfl, ((Below.refl _ _).alloc (Nat.le_refl _) _).alloc (by simp) _⟩
  exact results_cell_row rfl _ _ (w.heap.size + 1) 137 _ (0, 0) _ rfl (heap_alloc2_new _ _ _) Tryz.underlying137 rfl (by kernel_rfl)

def pairRes (o : Option (List Int)) : Value := .tuple #[pv (o.getD []), .bool o.isSome]

theorem ret_p {o : Option (List Int)} {a b c : Int} (h : o = some [a, b, c]) : Ending.returned (.tuple #[.agg #[.int .i64 a, .int .i64 b, .int .i64 c], .bool true]) = .returned (pairRes o) := by rw [h]; rfl
theorem ret_p0 {o : Option (List Int)} (h : o = none) : Ending.returned (.tuple #[.agg #[.int .i64 0, .int .i64 0, .int .i64 0], .bool false]) = .returned (pairRes o) := by rw [h]; rfl

/-- The block of the result stands, still zero. -/
def Res0 (w wr : World) : Prop := wr.heap[w.heap.size]? = some (.cells #[.int .i64 0, .int .i64 0, .int .i64 0] 137)

theorem Res0.facts {w wr : World} (h : Res0 w wr) : w.heap.size < wr.heap.size ∧ wr.cell? ⟨w.heap.size, 0, none⟩ = some (.int .i64 0) ∧ wr.cell? ⟨w.heap.size, 1, none⟩ = some (.int .i64 0) ∧ wr.cell? ⟨w.heap.size, 2, none⟩ = some (.int .i64 0) ∧ ∀ j, wr.frozen? ⟨w.heap.size, j, none⟩ = false :=
  ⟨(Array.getElem?_eq_some_iff.1 h).1, by simp [World.cell?, show wr.heap[w.heap.size]? = _ from h], by simp [World.cell?, show wr.heap[w.heap.size]? = _ from h], by simp [World.cell?, show wr.heap[w.heap.size]? = _ from h], fun j => by simp [World.frozen?, show wr.heap[w.heap.size]? = _ from h]⟩

theorem Res0.alloc {w wr : World} (h : Res0 w wr) (o : Obj) : Res0 w (wr.alloc o) := by
  unfold Res0
  rw [Below.heap_alloc _ _ _ h.facts.1]; exact h

theorem Res0.below {w wr w' : World} (h : Res0 w wr) {B : Nat} (hb : Below B wr w') (hB : wr.heap.size ≤ B) : Res0 w w' := by
  unfold Res0
  rw [hb.block _ (Nat.lt_of_lt_of_le h.facts.1 hB)]; exact h

theorem below_res {w wr : World} (h : Below w.heap.size w wr) (x y z : Value) : Below w.heap.size w (((wr.setCell ⟨w.heap.size, 0, none⟩ x).setCell ⟨w.heap.size, 1, none⟩ y).setCell ⟨w.heap.size, 2, none⟩ z) :=
  ((h.setCell (Nat.le_refl _) _).setCell (Nat.le_refl _) _).setCell (Nat.le_refl _) _

def PRel (n : Nat) (w : World) (p : List Int → Bool) (m o : Nat) (i : Value) (wr : World) : Prop :=
  ∃ k : Nat, k ≤ n ∧ i = .int .i64 k ∧ NoneI p (o + m * k) ∧ Below w.heap.size w wr ∧ Res0 w wr

set_option maxRecDepth 100000 in
set_option maxHeartbeats 2000000 in
theorem implPair_any (r : Int) (w : World) (hc : Held w 1 capF) (ho : Held w 2 othF) :
    Calls Tryz.prog 104 #[.int .i64 r] w fun e w' => e = .returned (pairRes (tabI.find? (fun t => at0 t 0 == r))) ∧ Below w.heap.size w w' := by
  obtain ⟨t, fr, hh0⟩ := hc
  have hlt1 := ho.lt
  have HO : Hid (Held w 2 othF) := ho
  have hh : (w.alloc (.cells #[.int .i64 0, .int .i64 0, .int .i64 0] 137)).heap[1]? = some (.cells capA t fr) := by
    rw [Below.heap_alloc _ _ _ ((Array.getElem?_eq_some_iff.1 hh0).1)]; exact hh0
  clear hh0 ho
  go_enter Tryz.func104, Tryz.ntmps104
  go_wp2_with (refine wpList_load_row rfl 154 (.global 1) rfl 1 rfl t capA fr _ hh Tryz.underlying154 rfl (by kernel_rfl) ?_)
  clear hh
  go_loopw [10] (fun i wr => PRel 26 w (fun t => at0 t 0 == r) 2 0 i wr) (fun i _ => 26 - (intOf i).toNat)
  case atStart => exact ⟨0, Nat.zero_le _, rfl, fun j t hj => by omega, (Below.refl _ _).alloc (Nat.le_refl _) _, heap_alloc_new w _⟩
  case round =>
    obtain ⟨k, hk, rfl, HN0, hb, hres⟩ := hrel
    have HN : Hid (NoneI (fun t => at0 t 0 == r) (0 + 2 * k)) := HN0
    clear HN0
    obtain ⟨hn0, c0, c1, c2, f0⟩ := hres.facts
    by_cases hlt : k < 26
    · have hi := fun w => cap_index k hlt w
      have HT := tabI_cap k (by simpa using hlt)
      obtain ⟨b1, b2⟩ := cap_bound k (by simpa using hlt)
      generalize at0 (capT.getD k []) 0 = a at *
      generalize at0 (capT.getD k []) 1 = b at *
      generalize at0 (capT.getD k []) 2 = c at *
      have hk8 : (k : Int) < 26 := by omega
      by_cases e : a = r
      · subst e
        have HF : Hid (tabI.find? (fun t => at0 t 0 == a) = some [a, b, c]) := findI_at HN.out (by rw [Nat.zero_add]; exact HT.1) (by simp [at0])
        clear HN HT hres
        go_wp2
        (try simp only [Exit.inBlock, Exit.then])
        refine bodyPost_ret (v := .tuple #[.agg #[.int .i64 a, .int .i64 b, .int .i64 c], .bool true]) ?_ rfl ⟨ret_p HF.out, (below_res hb _ _ _).alloc (below_res hb _ _ _).size _⟩
        rw [results_cell_tmp rfl]
        go_simp
      · have e2 : (a == r) = false := by simpa using e
        have SM := fun w => small_any w a b c b1 b2
        have HN1 := HN.out.succ (t := [a, b, c]) (by rw [Nat.zero_add]; exact HT.1) (by simpa [at0] using e)
        have HT2 := HT.2
        clear HN HT e c0 c1 c2 f0
        go_wp2_with fail
        refine (SM _).mono ?_
        rintro e w1 ⟨rfl, hb1⟩
        have hres1 := (hres.alloc (.cells #[.int .i64 a, .int .i64 b, .int .i64 c] 137)).below hb1 (Nat.le_refl _)
        have hbb : Below w.heap.size w w1 := (hb.alloc hb.size _).trans (hb1.mono (hb.alloc hb.size _).size)
        obtain ⟨hn1, c0, c1, c2, f0⟩ := hres1.facts
        clear SM hb1 hb hres hn0
        by_cases e : a + 32 = r
        · have HF : Hid (tabI.find? (fun t => at0 t 0 == r) = some [a + 32, b + 32, c]) := findI_at HN1 (by rw [Nat.zero_add]; exact HT2) (by simp [at0, e])
          clear HN1 HT2 hres1
          have e3 : (a + 32 == r) = true := by simpa using e
          clear e
          go_wp2
          (try simp only [Exit.inBlock, Exit.then])
          refine bodyPost_ret (v := .tuple #[.agg #[.int .i64 (a + 32), .int .i64 (b + 32), .int .i64 c], .bool true]) ?_ rfl ⟨ret_p HF.out, (below_res hbb _ _ _).alloc (below_res hbb _ _ _).size _⟩
          rw [results_cell_tmp rfl]
          go_simp
        · have e3 : (a + 32 == r) = false := by simpa using e
          have HN2 := HN1.succ (t := [a + 32, b + 32, c]) (by rw [Nat.zero_add]; exact HT2) (by simpa [at0] using e)
          have HP : Hid (PRel 26 w (fun t => at0 t 0 == r) 2 0 (.int .i64 ((k : Int) + 1)) (w1.alloc (.cells #[.int .i64 (a + 32), .int .i64 (b + 32), .int .i64 c] 137))) :=
            ⟨k + 1, by omega, by go_num, by rw [show 0 + 2 * (k + 1) = 0 + 2 * k + 1 + 1 by omega]; exact HN2, hbb.alloc hbb.size _, hres1.alloc _⟩
          clear HN1 HT2 hres1 HN2 e
          go_wp2
          exact ⟨HP.out, by simp [intOf]; omega⟩
    · have hk26 : k = 26 := by omega
      subst hk26
      obtain ⟨t2, fr2, hh0⟩ := HO.out.below hb hlt1
      have hh : wr.heap[2]? = some (.cells othA t2 fr2) := hh0
      clear hh0 HO c0 c1 c2 f0
      go_wp2_with (refine wpList_load_row rfl 156 (.global 2) rfl 2 rfl t2 othA fr2 _ hh Tryz.underlying156 rfl (by kernel_rfl) ?_)
      clear hh
      go_loopw [27] (fun i wr => PRel 5 w (fun t => at0 t 0 == r) 1 52 i wr) (fun i _ => 5 - (intOf i).toNat)
      case atStart => exact ⟨0, Nat.zero_le _, rfl, HN.out, hb, hres⟩
      case round =>
        clear hb hres hn0 HN
        obtain ⟨k, hk, rfl, HN0, hb, hres⟩ := hrel
        have HN : Hid (NoneI (fun t => at0 t 0 == r) (52 + 1 * k)) := HN0
        clear HN0
        obtain ⟨hn0, c0, c1, c2, f0⟩ := hres.facts
        by_cases hlt : k < 5
        · have hi := fun w => oth_index k hlt w
          have HT := tabI_oth k (by simpa using hlt)
          generalize at0 (othT.getD k []) 0 = a at *
          generalize at0 (othT.getD k []) 1 = b at *
          generalize at0 (othT.getD k []) 2 = c at *
          have hk8 : (k : Int) < 5 := by omega
          by_cases e : a = r
          · subst e
            have HF : Hid (tabI.find? (fun t => at0 t 0 == a) = some [a, b, c]) := findI_at HN.out (by rw [Nat.one_mul]; exact HT) (by simp [at0])
            clear HN HT hres
            go_wp2
            (try simp only [Exit.inBlock, Exit.then])
            refine bodyPost_ret (v := .tuple #[.agg #[.int .i64 a, .int .i64 b, .int .i64 c], .bool true]) ?_ rfl ⟨ret_p HF.out, (below_res hb _ _ _).alloc (below_res hb _ _ _).size _⟩
            rw [results_cell_tmp rfl]
            go_simp
          · have e2 : (a == r) = false := by simpa using e
            have HN1 := HN.out.succ (t := [a, b, c]) (by rw [Nat.one_mul]; exact HT) (by simpa [at0] using e)
            have HP : Hid (PRel 5 w (fun t => at0 t 0 == r) 1 52 (.int .i64 ((k : Int) + 1)) (wr.alloc (.cells #[.int .i64 a, .int .i64 b, .int .i64 c] 137))) :=
              ⟨k + 1, by omega, by go_num, by rw [show 52 + 1 * (k + 1) = 52 + 1 * k + 1 by omega]; exact HN1, hb.alloc hb.size _, hres.alloc _⟩
            clear HN HT e HN1 hres
            go_wp2
            exact ⟨HP.out, by simp [intOf]; omega⟩
        · have HF : Hid (tabI.find? (fun t => at0 t 0 == r) = none) := findI_no HN.out (by omega)
          clear HN hres
          go_wp2
          (try simp only [Exit.inBlock, Exit.then])
          refine bodyPost_ret (v := .tuple #[.agg #[.int .i64 0, .int .i64 0, .int .i64 0], .bool false]) ?_ rfl ⟨ret_p0 HF.out, ?_⟩
          · rw [results_cell_tmp rfl]
            go_simp
          · first | exact below_res hb _ _ _ | exact hb
end Go.Proofs.YtanfebccenfffahGreatDoor
