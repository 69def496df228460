/- Texts of mine laid together: ICut, ResC, IShift, RowKinds, IFourth, ICount, Grown1, PBase, IIdx. -/
import Derived.Test.YtinjldagfhbioaaGreatDoorPCut
import Derived.Test.YtinjldagfhbioaaGreatDoorMD2
import Derived.Test.YtinjldagfhbioaaGreatDoorRead
import Derived.Test.YtinjldagfhbioaaGreatDoorInts
import Derived.Test.YtinjldagfhbioaaGreatDoorFour
import Derived.Deep.RegionHeld3
import Derived.Deep.Cut
import Derived.Deep.CutRange
import Derived.Test.YtinjldagfhbioaaGreatDoorPKey2
import Derived.Test.YtinjldagfhbioaaGreatDoorSBase
import Derived.Lib.Bytealg
import Derived.WalkMore
import Derived.Lib.OthersKept
import Derived.WalkSmall
import Derived.Lib.IndexLaws
import Derived.Deep.QuietTactic
import Derived.BigQuiet
namespace Go.Proofs.YtinjldagfhbioaaGreatDoor
open Go.RowKit

theorem ints_headI {w : World} {B : Nat} {v : Value} {l : List Int} (h : Ints w B v l) (h1 : 1 ≤ l.length) : ∃ g c, v = .slice (some ⟨g, 0, none⟩) l.length c ∧ w.cell? ⟨g, 0, none⟩ = some (.int .i64 (at0 l 0)) := by
  rcases h.form with ⟨rfl, rfl⟩ | ⟨g, cap, rfl, _, _⟩
  · simp at h1
  · refine ⟨g, cap, rfl, ?_⟩
    have := h.cell 0 (by omega)
    unfold at0
    exact this

/-- What CutsOf answers. -/
def cutI (s : ByteArray) : List Int := if ok4 s = true then cutsL s else []

set_option maxRecDepth 100000 in
set_option maxHeartbeats 1000000 in
theorem mayCut_any (u : ByteArray) (r : Int) (w : World) (hu : u.size ≤ 200) (hd : (Dec.decT u.size u).1 = [r]) (ht : Tabs3 w) :
    Calls Tryz.prog 36 #[.string u] w fun e w' => e = .returned (.bool (cutB r)) ∧ Below w.heap.size w w' := by
  have A := apartT_any u (by omega) w ht
  have hr : rn4 u = nD [r] := by unfold rn4; rw [hd]
  have h1 := nD_one r
  have hok : ok4 u = true := decide_eq_true ⟨hu, by rw [hr]; omega⟩
  have hA : aR u = nD [r] := by unfold aR; rw [hok, if_pos rfl, hr]
  rw [hok, hA] at A
  have C := fun (x : Int) (u : World) (hb : Below w.heap.size w u) => implClass_any x u ((ht.below hb).1)
  have HCB : Hid (cutB r = (decide (cls (at0 (nD [r]) 0) = 0) && !decide (4449 ≤ at0 (nD [r]) 0 ∧ at0 (nD [r]) 0 ≤ 4546))) := rfl
  obtain ⟨x, HX⟩ : ∃ x, Hid (at0 (nD [r]) 0 = x) := ⟨_, rfl⟩
  obtain ⟨b, HB⟩ : ∃ b, Hid ((decide (cls x = 0) && !decide (4449 ≤ x ∧ x ≤ 4546)) = b) := ⟨_, rfl⟩
  rw [HCB.out, HX.out, HB.out]
  have C := C x
  generalize nD [r] = dl at *
  clear hr hok hA ht hd HCB
  have hl : (0 : Int) < (dl.length : Int) := by omega
  by_cases hc : cls x = 0
  · rw [hc] at C
    by_cases h4 : x < 4449
    · obtain rfl : b = true := by rw [← HB.out, decide_eq_true hc, decide_eq_false (fun d => by omega)]; rfl
      clear HB hc
      go_enter Tryz.func36, Tryz.ntmps36
      go_wp2_with fail
      refine A.mono ?_
      rintro e w1 ⟨v1, rfl, i1, b1⟩
      obtain ⟨g1, c1, rfl, hc0⟩ := ints_headI i1 h1.1
      rw [HX.out] at hc0
      have C1 := C w1 b1
      clear A C i1
      go_wp2_with fail
      refine C1.mono ?_
      rintro e w2 ⟨rfl, b2⟩
      have hb2 := b1.trans (b2.mono b1.size)
      clear C1 b2
      go_wp2
      go_ret
      exact ⟨rfl, hb2⟩
    · by_cases h5 : 4546 < x
      · obtain rfl : b = true := by rw [← HB.out, decide_eq_true hc, decide_eq_false (fun d => by omega)]; rfl
        clear HB hc
        go_enter Tryz.func36, Tryz.ntmps36
        go_wp2_with fail
        refine A.mono ?_
        rintro e w1 ⟨v1, rfl, i1, b1⟩
        obtain ⟨g1, c1, rfl, hc0⟩ := ints_headI i1 h1.1
        rw [HX.out] at hc0
        have C1 := C w1 b1
        clear A C i1
        go_wp2_with fail
        refine C1.mono ?_
        rintro e w2 ⟨rfl, b2⟩
        have hb2 := b1.trans (b2.mono b1.size)
        clear C1 b2
        go_wp2
        go_ret
        exact ⟨rfl, hb2⟩
      · obtain rfl : b = false := by rw [← HB.out, decide_eq_true hc, decide_eq_true (by omega)]; rfl
        clear HB hc
        go_enter Tryz.func36, Tryz.ntmps36
        go_wp2_with fail
        refine A.mono ?_
        rintro e w1 ⟨v1, rfl, i1, b1⟩
        obtain ⟨g1, c1, rfl, hc0⟩ := ints_headI i1 h1.1
        rw [HX.out] at hc0
        have C1 := C w1 b1
        clear A C i1
        go_wp2_with fail
        refine C1.mono ?_
        rintro e w2 ⟨rfl, b2⟩
        have hb2 := b1.trans (b2.mono b1.size)
        clear C1 b2
        go_wp2
        go_ret
        exact ⟨ret_b (by simp; omega), hb2⟩
  · have hc8 : (cls x == 0) = false := by simp; exact hc
    obtain rfl : b = false := by rw [← HB.out, decide_eq_false hc]; rfl
    clear HB hc
    go_enter Tryz.func36, Tryz.ntmps36
    go_wp2_with fail
    refine A.mono ?_
    rintro e w1 ⟨v1, rfl, i1, b1⟩
    obtain ⟨g1, c1, rfl, hc0⟩ := ints_headI i1 h1.1
    rw [HX.out] at hc0
    have C1 := C w1 b1
    clear A C i1
    go_wp2_with fail
    refine C1.mono ?_
    rintro e w2 ⟨rfl, b2⟩
    have hb2 := b1.trans (b2.mono b1.size)
    clear C1 b2
    go_wp2
    go_ret
    exact ⟨rfl, hb2⟩

def CutIRel (s : ByteArray) (w : World) (v i : Value) (wr : World) : Prop :=
  ∃ (a f : Nat) (acc : List Int), i = .int .i64 a ∧ Ints wr w.heap.size v acc ∧ acc ++ cutsPr s f a = [(0 : Int)] ++ cutsPr s s.size 0 ∧ s.size ≤ a + f ∧ a ≤ s.size ∧ acc.length ≤ a + 1 ∧ Below w.heap.size w wr

set_option maxRecDepth 100000 in
set_option maxHeartbeats 2000000 in
theorem implCut_any (s : ByteArray) (w : World) (hs : s.size ≤ 1048576) (ht : Tabs3 w) :
    Calls Tryz.prog 15 #[.string s] w fun e w' => ∃ v, e = .returned (.tuple #[v, .bool (ok4 s)]) ∧ Ints w' w.heap.size v (cutI s) ∧ Below w.heap.size w w' := by
  have A := apartT_any s hs w ht
  unfold cutI
  cases hok : ok4 s
  · rw [hok] at A
    rw [if_neg (by simp)]
    clear hok ht
    go_enter Tryz.func15, Tryz.ntmps15
    go_wp2_with fail
    refine A.mono ?_
    rintro e w1 ⟨v1, rfl, _, b1⟩
    clear A
    go_wp2
    go_ret2
    exact ⟨_, rfl, ⟨rfl, .inl ⟨rfl, rfl⟩⟩, b1⟩
  · rw [hok] at A
    rw [if_pos rfl]
    have hs2 : s.size ≤ 200 := (of_decide_eq_true hok).1
    have HT : Hid (Tabs3 w) := ht
    clear hok ht
    obtain ⟨i0, hi, hz0, hz1, hz2⟩ := info_parts info_int
    go_enter Tryz.func15, Tryz.ntmps15
    go_wp2_with fail
    refine A.mono ?_
    rintro e w1 ⟨v1, rfl, _, b1⟩
    clear A
    have bA : Below w.heap.size w (w1.alloc (.cells #[.int .i64 0] 3)) := b1.alloc b1.size _
    have HI1 : Hid (Ints (w1.alloc (.cells #[.int .i64 0] 3)) w.heap.size (.slice (some ⟨w1.heap.size, 0, none⟩) 1 1) [0]) := ints_block [0] rfl (heap_alloc_new w1 _) b1.size (by unfold maxLen; simp)
    have HB1 : Hid (Below _ _ _) := bA
    clear bA b1
    go_wp2_with fail
    go_loopw [6, 7] (fun v i wr => CutIRel s w v i wr) (fun _ i _ => s.size - (intOf i).toNat)
    case atStart => exact ⟨0, s.size, [0], rfl, HI1.out, rfl, by omega, by omega, by simp, HB1.out⟩
    case round =>
      clear HI1 HB1
      obtain ⟨a, f, acc, rfl, hown, hA, hf, ha, hal, hbw⟩ := hrel
      have hsz := hbw.size
      by_cases hp : a < s.size
      · have hd := dec_alone s hp
        have hex := Dec.size_extract s a
        have O := fun w => front_any (s.extract a s.size) (by omega) (by unfold maxLen; omega) w
        obtain ⟨f', rfl⟩ : ∃ f', f = f' + 1 := ⟨f - 1, by omega⟩
        have hst : cutsPr s (f' + 1) a = (if 0 < a ∧ cutB (Dec.one (s.extract a s.size)).1 = true then [(a : Int)] else []) ++ cutsPr s f' (a + (Dec.one (s.extract a s.size)).2.1) := by simp only [cutsPr]; rw [if_pos hp]
        rw [hst] at hA
        obtain ⟨d1, d2, d3⟩ := hd
        obtain ⟨r, n, ok, HO⟩ : ∃ r n ok, Hid (Dec.one (s.extract a s.size) = (r, n, ok)) := ⟨_, _, _, rfl⟩
        rw [HO.out] at O hA d1 d2 d3
        have hn1 : 1 ≤ n := d2
        have hn2 : a + n ≤ s.size := d1
        have hd3 : (Dec.decT (s.extract a (a + n)).size (s.extract a (a + n))).1 = [r] := d3
        have M := mayCut_any (s.extract a (a + n)) r wr (by rw [size_cut s hn2]; omega) hd3 (HT.out.below hbw)
        have hA2 : acc ++ ((if 0 < a ∧ cutB r = true then [(a : Int)] else []) ++ cutsPr s f' (a + n)) = [(0 : Int)] ++ cutsPr s s.size 0 := hA
        have HA : Hid _ := hA2
        clear hA hA2 hst d1 d2 d3 hd3 HO
        have HOW : Hid (Ints wr w.heap.size _ acc) := hown
        have HBW : Hid (Below _ _ _) := hbw
        clear hown hbw
        go_wp2_with fail
        refine (O _).mono ?_
        rintro e w1 ⟨rfl, rfl⟩
        clear O
        by_cases h0 : a = 0
        · have HA3 : Hid (acc ++ cutsPr s f' (a + n) = [(0 : Int)] ++ cutsPr s s.size 0) := by
            show _ = _
            have := HA.out
            rw [if_neg (fun d => by omega)] at this
            simpa using this
          clear HA M
          subst h0
          go_wp2
          exact ⟨⟨0 + n, f', acc, by go_num, HOW.out, HA3.out, by omega, by omega, by omega, HBW.out⟩, by simp [intOf]; omega⟩
        · have h08 : (0 : Int) < (a : Int) := by omega
          have h09 : decide ((0 : Int) < (a : Int)) = true := decide_eq_true h08
          have hn8 : (a : Int) + (n : Int) ≤ (s.size : Int) := by omega
          have hn9 : (a : Int) ≤ (a : Int) + (n : Int) := by omega
          cases hcb : cutB r
          · rw [hcb] at M
            have HA3 : Hid (acc ++ cutsPr s f' (a + n) = [(0 : Int)] ++ cutsPr s s.size 0) := by
              show _ = _
              have := HA.out
              rw [if_neg (fun d => by rw [hcb] at d; exact absurd d.2 (by simp))] at this
              simpa using this
            clear HA hcb
            go_wp2_with fail
            refine M.mono ?_
            rintro e w2 ⟨rfl, b2⟩
            clear M
            have HOW2 : Hid (Ints w2 w.heap.size _ acc) := HOW.out.below b2
            have HBW2 : Hid (Below w.heap.size w w2) := HBW.out.trans (b2.mono HBW.out.size)
            clear HOW HBW b2
            go_wp2
            exact ⟨⟨a + n, f', acc, by go_num, HOW2.out, HA3.out, by omega, by omega, by omega, HBW2.out⟩, by simp [intOf]; omega⟩
          · rw [hcb] at M
            have HA3 : Hid ((acc ++ [(a : Int)]) ++ cutsPr s f' (a + n) = [(0 : Int)] ++ cutsPr s s.size 0) := by
              show _ = _
              have := HA.out
              rw [if_pos ⟨by omega, hcb⟩] at this
              simpa using this
            clear HA hcb
            go_wp2_with fail
            refine M.mono ?_
            rintro e w2 ⟨rfl, b2⟩
            clear M
            have hown := HOW.out.below b2
            have HBW2 : Hid (Below w.heap.size w w2) := HBW.out.trans (b2.mono HBW.out.size)
            have hsz2 := HBW2.out.size
            unfold Ints at hown
            clear HOW HBW b2
            go_wp2_with (at_builtin; refine wpList_append_own _ rfl _ _ 35 rfl w.heap.size 3 i0 (.int .i64 0) 1 8 Tryz.underlying35 hi hz0 hz1 hz2 rfl (by decide) _ _ _ rfl (hown.alloc _) ⟨_, 0, none⟩ 1 1 [.int .i64 (a : Int)] rfl rfl (cell_one_new _ _ _) (fun x hx => by simp at hx; subst hx; rfl) (by unfold maxLen; omega) (by omega) (by simp; omega) ?_; intro v' w5 hown' hgrow5 _)
            have hb5 := Below.grown (HBW2.out.alloc (by omega) _) hgrow5 (by simp; omega) (fun j hj => (hown.lt _ hj).1)
            exact ⟨⟨a + n, f', acc ++ [(a : Int)], by go_num, Ints.snoc hown', HA3.out, by omega, by omega, by simp; omega, hb5⟩, by simp [intOf]; omega⟩
      · have hn8 : ¬ (a : Int) < (s.size : Int) := by omega
        rw [cutsPr_end s f a hp, List.append_nil] at hA
        by_cases hz : 0 < s.size
        · have hz8 : (0 : Int) < (s.size : Int) := by omega
          have HE : Hid (acc ++ [(s.size : Int)] = cutsL s) := by
            show _ = _
            rw [hA, cuts_prog s hz]
            rfl
          clear hA
          unfold Ints at hown
          go_wp2_with (at_builtin; refine wpList_append_own _ rfl _ _ 35 rfl w.heap.size 3 i0 (.int .i64 0) 1 8 Tryz.underlying35 hi hz0 hz1 hz2 rfl (by decide) _ _ _ rfl (hown.alloc _) ⟨_, 0, none⟩ 1 1 [.int .i64 (s.size : Int)] rfl rfl (cell_one_new _ _ _) (fun x hx => by simp at hx; subst hx; rfl) (by unfold maxLen; omega) (by omega) (by simp; omega) ?_; intro v' w3 hown' hgrow3 _)
          go_ret2
          have hb3 := Below.grown (hbw.alloc (by omega) _) hgrow3 (by simp; omega) (fun j hj => (hown.lt _ hj).1)
          refine ⟨_, rfl, ?_, hb3⟩
          rw [← HE.out]
          exact Ints.snoc hown'
        · have hz0' : s.size = 0 := by omega
          have HE : Hid (acc = cutsL s) := by
            show _ = _
            rw [hA, cutsPr_end s _ _ hz]
            unfold cutsL
            rw [cutsFrom_end s _ _ hz, hz0']
            rfl
          have hz8 : ¬ (0 : Int) < (s.size : Int) := by omega
          clear hA
          go_wp2
          go_ret2
          rw [← HE.out]
          exact ⟨_, rfl, hown, hbw⟩
end Go.Proofs.YtinjldagfhbioaaGreatDoor

namespace Go.Proofs.YtinjldagfhbioaaGreatDoor
open Go.RowKit

theorem results_cell1 {fn : Func} {p : Tmp} {ty : TypeId} (h : fn.results = #[.cell p ty]) (tmps : Array Value) (P : Program) (w : World) :
    (results fn tmps).run P w = ((asAddr (tmps.getD p undef)).run P w).andThen fun a w₁ => (loadVar ty a).run P w₁ := by
  simp only [results, h]
  simp [Sem.run_bind, Result.andThen]

theorem results_tmp_cell {fn : Func} {p u : Tmp} {ty : TypeId} (h : fn.results = #[.tmp u, .cell p ty]) (tmps : Array Value) (P : Program) (w : World) :
    (results fn tmps).run P w = ((asAddr (tmps.getD p undef)).run P w).andThen fun a w₁ => ((loadVar ty a).run P w₁).andThen fun v w₂ => .ok (.tuple #[tmps.getD u undef, v]) w₂ := by
  simp only [results, h]
  simp [Sem.run_bind, Result.andThen]
end Go.Proofs.YtinjldagfhbioaaGreatDoor

namespace Go.Proofs.YtinjldagfhbioaaGreatDoor
open Go.RowKit

/-- The fourth weight of an elem and how it counts; b: whether it varies or stands behind one that does. -/
def shE (e : El) (b : Bool) : Int × El := if e.varies = true then (e.first, elZ) else if b = true ∨ (e.first = 0 ∧ e.second = 0 ∧ e.third = 0) then (0, elZ) else (65535, e)

def behB (b : Bool) (e : El) : Bool := e.varies || (b && e.first == 0)

theorem four1_shift (b : Bool) (e : El) : four1 true b e = ((shE e (behB b e)).1, (shE e (behB b e)).2, behB b e) := by
  obtain ⟨x, y, z, v⟩ := e
  unfold four1 shE behB elZ
  cases v <;> cases b <;> by_cases hx : x = 0 <;> by_cases hy : y = 0 <;> by_cases hz : z = 0 <;> simp [hx, hy, hz]

theorem below_two (w : World) (o o' : Obj) : Below w.heap.size w ((w.alloc o).alloc o') := ((Below.refl w.heap.size w).alloc (Nat.le_refl _) o).alloc (by simp) o'

theorem ret_sh {p : Int × El} {n : Int} {a b c : Int} {d : Bool} (h : p = (n, ⟨a, b, c, d⟩)) : Ending.returned (.tuple #[.int .i64 n, .agg #[.int .i64 a, .int .i64 b, .int .i64 c, .bool d]]) = .returned (.tuple #[.int .i64 p.1, .agg #[.int .i64 p.2.first, .int .i64 p.2.second, .int .i64 p.2.third, .bool p.2.varies]]) := by rw [h]

set_option maxRecDepth 100000 in
set_option maxHeartbeats 4000000 in
theorem shift_any (e : El) (b : Bool) (w : World) :
    Calls Tryz.prog 69 #[.agg #[.int .i64 e.first, .int .i64 e.second, .int .i64 e.third, .bool e.varies], .bool b] w fun x w' => x = .returned (.tuple #[.int .i64 (shE e b).1, .agg #[.int .i64 (shE e b).2.first, .int .i64 (shE e b).2.second, .int .i64 (shE e b).2.third, .bool (shE e b).2.varies]]) ∧ Below w.heap.size w w' := by
  obtain ⟨x, y, z, v⟩ := e
  have hba := ((Below.refl w.heap.size w).alloc (Nat.le_refl _) (.cells #[.int .i64 x, .int .i64 y, .int .i64 z, .bool v] 72)).alloc (by simp) (.cells #[.int .i64 0, .int .i64 0, .int .i64 0, .bool false] 72)
  cases v
  · cases b
    · by_cases hz : x = 0 ∧ y = 0 ∧ z = 0
      · obtain ⟨rfl, rfl, rfl⟩ := hz
        have HO : Hid (shE ⟨0, 0, 0, false⟩ false = (0, ⟨0, 0, 0, false⟩)) := by show _ = _; unfold shE elZ; simp
        go_enter Tryz.func69, Tryz.ntmps69
        go_wp2
        refine bodyPost_ret (v := .tuple #[.int .i64 0, .agg #[.int .i64 0, .int .i64 0, .int .i64 0, .bool false]]) ?_ rfl ⟨ret_sh HO.out, hba⟩
        rw [results_tmp_cell rfl]
        go_simp
      · by_cases hx : x = 0
        · subst hx
          by_cases hy : y = 0
          · subst hy
            have hz0 : ¬ z = 0 := fun c => hz ⟨rfl, rfl, c⟩
            have HO : Hid (shE ⟨0, 0, z, false⟩ false = (65535, ⟨0, 0, z, false⟩)) := by show _ = _; unfold shE elZ; simp [hz0]
            go_enter Tryz.func69, Tryz.ntmps69
            go_wp2
            go_region
            all_goals
              go_wp2
              refine bodyPost_ret (v := .tuple #[.int .i64 65535, .agg #[.int .i64 0, .int .i64 0, .int .i64 z, .bool false]]) ?_ rfl ⟨ret_sh HO.out, (below_two w _ _).drew⟩
              rw [results_tmp_cell rfl]
              go_simp
          · have HO : Hid (shE ⟨0, y, z, false⟩ false = (65535, ⟨0, y, z, false⟩)) := by show _ = _; unfold shE elZ; simp [hy]
            go_enter Tryz.func69, Tryz.ntmps69
            go_wp2
            go_region
            all_goals
              go_wp2
              refine bodyPost_ret (v := .tuple #[.int .i64 65535, .agg #[.int .i64 0, .int .i64 y, .int .i64 z, .bool false]]) ?_ rfl ⟨ret_sh HO.out, (below_two w _ _).drew⟩
              rw [results_tmp_cell rfl]
              go_simp
        · have HO : Hid (shE ⟨x, y, z, false⟩ false = (65535, ⟨x, y, z, false⟩)) := by show _ = _; unfold shE elZ; simp [hx]
          go_enter Tryz.func69, Tryz.ntmps69
          go_wp2
          go_region
          all_goals
            go_wp2
            refine bodyPost_ret (v := .tuple #[.int .i64 65535, .agg #[.int .i64 x, .int .i64 y, .int .i64 z, .bool false]]) ?_ rfl ⟨ret_sh HO.out, (below_two w _ _).drew⟩
            rw [results_tmp_cell rfl]
            go_simp
    · have HO : Hid (shE ⟨x, y, z, false⟩ true = (0, ⟨0, 0, 0, false⟩)) := by show _ = _; unfold shE elZ; simp
      go_enter Tryz.func69, Tryz.ntmps69
      go_wp2
      refine bodyPost_ret (v := .tuple #[.int .i64 0, .agg #[.int .i64 0, .int .i64 0, .int .i64 0, .bool false]]) ?_ rfl ⟨ret_sh HO.out, hba⟩
      rw [results_tmp_cell rfl]
      go_simp
  · have HO : Hid (shE ⟨x, y, z, true⟩ b = (x, ⟨0, 0, 0, false⟩)) := by show _ = _; unfold shE elZ; simp
    go_enter Tryz.func69, Tryz.ntmps69
    go_wp2
    refine bodyPost_ret (v := .tuple #[.int .i64 x, .agg #[.int .i64 0, .int .i64 0, .int .i64 0, .bool false]]) ?_ rfl ⟨ret_sh HO.out, hba⟩
    rw [results_tmp_cell rfl]
    go_simp
end Go.Proofs.YtinjldagfhbioaaGreatDoor

namespace Go.Proofs.YtinjldagfhbioaaGreatDoor
open Go.RowKit

theorem own_type {u : World} {B B' e e' size size' n n' : Nat} {v v' : Value} {xs xs' : List Value} (h : u.ownsRow B e size v n xs) (h' : u.ownsRow B' e' size' v' n' xs') (he : e ≠ e') : v.ownBlock = none ∨ v.ownBlock ≠ v'.ownBlock := by
  rcases h.2 with ⟨rfl, _⟩ | ⟨g, cap, cur, rfl, _, hg, _⟩
  · exact .inl rfl
  · refine .inr fun c => ?_
    rcases h'.2 with ⟨rfl, _⟩ | ⟨g', cap', cur', rfl, _, hg', _⟩
    · cases c
    · have : g = g' := Option.some.inj c
      subst this
      rw [hg] at hg'
      injection hg' with e1
      injection e1 with _ e2 _
      exact he e2

end Go.Proofs.YtinjldagfhbioaaGreatDoor

namespace Go.Proofs.YtinjldagfhbioaaGreatDoor
open Go.RowKit

theorem set4_block {w : World} {n : Nat} {x y z t : Value} {T : TypeId} (h : w.heap[n]? = some (.cells #[x, y, z, t] T)) (a b c d : Value) :
    ((((w.setCell ⟨n, 0, none⟩ a).setCell ⟨n, 1, none⟩ b).setCell ⟨n, 2, none⟩ c).setCell ⟨n, 3, none⟩ d).heap[n]? = some (.cells #[a, b, c, d] T) ∧ w.grownBy ((((w.setCell ⟨n, 0, none⟩ a).setCell ⟨n, 1, none⟩ b).setCell ⟨n, 2, none⟩ c).setCell ⟨n, 3, none⟩ d) (some n) := by
  have h1 := heap_setCell_same w n 0 _ _ a h
  have h2 := heap_setCell_same _ n 1 _ _ b h1
  have h3 := heap_setCell_same _ n 2 _ _ c h2
  have h4 := heap_setCell_same _ n 3 _ _ d h3
  refine ⟨h4, rfl, rfl, rfl, by simp [World.setCell], fun k hk hne => ?_⟩
  have hkn : k ≠ n := fun e => hne (by rw [e])
  rw [heap_setCell_other _ _ k _ hkn, heap_setCell_other _ _ k _ hkn, heap_setCell_other _ _ k _ hkn, heap_setCell_other _ _ k _ hkn]

theorem frozen_row4 {w : World} {n : Nat} {cs : Array Value} {T : TypeId} (h : w.heap[n]? = some (.cells cs T)) (j : Nat) : w.frozen? ⟨n, j, none⟩ = false := by simp [World.frozen?, h]

def FpRel (w : World) (sh : Bool) (es : List El) (v6 v7 bv iv : Value) (wr : World) : Prop :=
  ∃ (k : Nat) (fs : List Int) (xs : List El) (b b' : Bool), k ≤ es.length ∧ iv = .int .i64 k ∧ bv = .bool b ∧ fourS sh es k = (fs, xs, b') ∧ (sh = true → b = b') ∧ Ints wr w.heap.size v6 fs ∧ Elems wr w.heap.size v7 xs ∧ Below w.heap.size w wr

theorem below_grownBy4 {w w' : World} (hb : Below w.heap.size w w') (row : Option Nat) : w.grownBy w' row := ⟨hb.os, hb.tape, hb.output, hb.size, fun k hk _ => hb.block k hk⟩

set_option maxRecDepth 100000 in
set_option maxHeartbeats 8000000 in
theorem implFourth_plain (w : World) (B g cap : Nat) (es : List El) (hz : es.length ≤ 1000) (hL : Elems w B (.slice (some ⟨g, 0, none⟩) es.length cap) es) :
    Calls Tryz.prog 49 #[.slice (some ⟨g, 0, none⟩) es.length cap, .bool false] w fun e w' => ∃ v v', e = .returned (.tuple #[v, v', .bool true]) ∧ Ints w' w.heap.size v (fourths false es) ∧ Elems w' w.heap.size v' (counted false es) ∧ Below w.heap.size w w' := by
  obtain ⟨i0, hi0, hz0, hs0, hy0⟩ := info_parts info_int
  obtain ⟨i1, hi1, hz1, hs1, hy1⟩ := info_parts info_elem
  have hz8 : ¬ (1000 : Int) < (es.length : Int) := by omega
  go_enter Tryz.func49, Tryz.ntmps49
  go_wp2
  go_loopw [7, 8, 9, 18] (fun v6 v7 bv iv wr => FpRel w false es v6 v7 bv iv wr) (fun _ _ _ iv _ => es.length - (intOf iv).toNat)
  case atStart => exact ⟨0, [], [], false, false, Nat.zero_le _, rfl, rfl, rfl, fun _ => rfl, World.ownsRow_nil _ _ _ _, World.ownsRow_nil _ _ _ _, Below.refl _ _⟩
  case round =>
    obtain ⟨k, fs, xs, b, b', hk, rfl, rfl, hf, hbb, hI, hE, hbw⟩ := hrel
    have hfl := fourS_len false es k
    rw [hf] at hfl
    have hfl1 : fs.length ≤ k := hfl.1
    have hfl2 : xs.length ≤ k := hfl.2
    have HF : Hid (fourS false es k = (fs, xs, b')) := hf
    clear hf hfl
    by_cases hlt : k < es.length
    · obtain ⟨e, he⟩ : ∃ e, es[k]? = some e := ⟨_, List.getElem?_eq_getElem hlt⟩
      have hS2 := fourS_succ he HF.out
      obtain ⟨a0, a1, a2, a3⟩ := (hL.below hbw).cells k e he
      have hk8 : (k : Int) < (es.length : Int) := by omega
      have hsz := hbw.size
      obtain ⟨x, y, z, v⟩ := e
      simp only at a0 a1 a2 a3
      clear he HF hL
      rw [four1_plain] at hS2
      have HS2 : Hid _ := hS2
      clear hS2 hbb
      have HI : Hid (Ints _ _ _ _) := hI
      have HE : Hid (Elems _ _ _ _) := hE
      have HBW : Hid (Below _ _ _) := hbw
      have hba : Below w.heap.size w (wr.alloc (.cells #[.int .i64 x, .int .i64 y, .int .i64 z, .bool v] 72)) := hbw.alloc hbw.size _
      have HBA : Hid (Below _ _ _) := hba
      have hblk : (wr.alloc (.cells #[.int .i64 x, .int .i64 y, .int .i64 z, .bool v] 72)).heap[wr.heap.size]? = some (.cells #[.int .i64 x, .int .i64 y, .int .i64 z, .bool v] 72) := heap_alloc_new wr _
      have HBLK : Hid _ := hblk
      clear hblk hI hE hbw hba
      go_upto_region 9 with fail
      go_cut [9] from 22 to 31 (fun bv wx => bv = .bool (behB b ⟨x, y, z, v⟩) ∧ wx = wr.alloc (.cells #[.int .i64 x, .int .i64 y, .int .i64 z, .bool v] 72))
      case first =>
        clear HS2 HI HE HBW HBLK HBA a0 a1 a2 a3
        cases v
        · cases b
          · go_wp2
            go_meet
            case rel => exact ⟨rfl, rfl⟩
          · by_cases hx : x = 0
            · subst hx
              go_wp2
              go_meet
              case rel => exact ⟨rfl, rfl⟩
            · have hx2 : (x == 0) = false := by simpa using hx
              have HXB : Hid (behB true ⟨x, y, z, false⟩ = false) := by show _ = _; unfold behB; simp [hx]
              go_wp2
              go_meet
              case rel => exact ⟨by rw [HXB.out], rfl⟩
        · go_wp2
          go_meet
          case rel => exact ⟨by cases b <;> rfl, rfl⟩
      case rest =>
        obtain ⟨rfl, rfl⟩ := hcut
        clear a0 a1 a2 a3
        generalize behB b ⟨x, y, z, v⟩ = bb at *
        have hIz : (wr.alloc (.cells #[.int .i64 x, .int .i64 y, .int .i64 z, .bool v] 72)).ownsRow w.heap.size 3 1 u7 fs.length (fs.map (Value.int .i64)) := World.ownsRow.alloc HI.out _
        have hEz : (wr.alloc (.cells #[.int .i64 x, .int .i64 y, .int .i64 z, .bool v] 72)).ownsRow w.heap.size 72 4 u8 xs.length (elAll xs) := World.ownsRow.alloc HE.out _
        have hbz := HBA.out
        have hblkz := HBLK.out
        have hltz : wr.heap.size < (wr.alloc (.cells #[.int .i64 x, .int .i64 y, .int .i64 z, .bool v] 72)).heap.size := by simp
        have hlowz : ∀ j, u7.ownBlock = some j → j < wr.heap.size := fun j hj => (World.ownsRow.lt HI.out j hj).2
        have HHZ : Hid (_ = _) := hblkz
        have HBZ : Hid (Below _ _ _) := hbz
        have hszz := hbz.size
        clear hblkz hbz
        unfold Ints at *
        unfold Elems at *
        go_wp2_with (at_builtin; refine wpList_append_own _ rfl _ _ 35 rfl w.heap.size 3 i0 (.int .i64 0) 1 8 Tryz.underlying35 hi0 hz0 hs0 hy0 rfl (by decide) _ _ _ rfl (hIz.alloc _) ⟨wr.heap.size + 1, 0, none⟩ 1 1 [.int .i64 65535] rfl rfl (cells1_at _ _ _ _ (by simp)) (fun u hu => by simp at hu; subst hu; rfl) (by unfold maxLen; omega) (by omega) (by simp; omega) ?_)
        intro v6' w4 ho4 hg4 _
        have hI4 : Ints w4 w.heap.size v6' (fs ++ [65535]) := Ints.snoc ho4
        have hE4 : Elems w4 w.heap.size u8 xs := World.ownsRow.kept (hEz.alloc _) hg4 (own_type hEz hIz (by decide))
        have hb4 : w4.heap[wr.heap.size]? = some (.cells #[.int .i64 x, .int .i64 y, .int .i64 z, .bool v] 72) := by
          rw [hg4.block wr.heap.size (by simp; omega) (fun c => by have := hlowz wr.heap.size c.symm; omega), Below.heap_alloc _ _ _ hltz]; exact HHZ.out
        have hbw4 : Below w.heap.size w w4 := Below.grown (HBZ.out.alloc HBZ.out.size _) hg4 (HBZ.out.alloc HBZ.out.size _).size (fun j hj => (World.ownsRow.lt hIz j hj).1)
        have e0 := cell_of_row _ _ 0 _ _ _ hb4
        have e1 := cell_of_row _ _ 1 _ _ _ hb4
        have e2 := cell_of_row _ _ 2 _ _ _ hb4
        have e3 := cell_of_row _ _ 3 _ _ _ hb4
        have hsz4 := hbw4.size
        have HI4 : Hid (Ints _ _ _ _) := hI4
        have HB4 : Hid (Below _ _ _) := hbw4
        clear ho4 hg4 hb4 HBLK HHZ hlowz hIz hEz hI4 hbw4 HI HE HBW HBA HBZ
        unfold Elems at hE4
        go_wp2_with (at_builtin; refine wpList_append_own _ rfl _ _ 62 rfl w.heap.size 72 i1 _ 4 32 Tryz.underlying62 hi1 hz1 hs1 hy1 rfl (by decide) _ _ _ rfl (hE4.alloc _) ⟨w4.heap.size, 0, none⟩ 1 1 (elC (⟨x, y, z, v⟩ : El)) rfl rfl (cells4_at _ _ (⟨x, y, z, v⟩ : El) _ (by simp)) ?hone (by unfold maxLen; omega) (by omega) (by simp; omega) ?_)
        case hone =>
          intro u hu
          simp [elC] at hu
          rcases hu with rfl | rfl | rfl | rfl <;> rfl
        intro v7' w5 ho5 hg5 _
        have hE5 : Elems w5 w.heap.size v7' (xs ++ [(⟨x, y, z, v⟩ : El)]) := Elems.snoc ho5
        have hI5 : Ints w5 w.heap.size v6' (fs ++ [65535]) := World.ownsRow.kept (World.ownsRow.alloc HI4.out _) hg5 (own_type HI4.out hE4 (by decide))
        have hbw5 : Below w.heap.size w w5 := Below.grown (HB4.out.alloc HB4.out.size _) hg5 (HB4.out.alloc HB4.out.size _).size (fun j hj => (World.ownsRow.lt hE4 j hj).1)
        have HE5 : Hid (Elems _ _ _ _) := hE5
        have HI5 : Hid (Ints _ _ _ _) := hI5
        have HB5 : Hid (Below _ _ _) := hbw5
        clear ho5 hg5 hE5 hI5 hbw5 HI4 HB4 e0 e1 e2 e3 hE4
        go_wp2
        exact ⟨⟨k + 1, _, _, _, _, hlt, by go_num, rfl, HS2.out, (fun c => by cases c), HI5.out, HE5.out, HB5.out⟩, by simp [intOf]; omega⟩
    · have hk3 : k = es.length := by omega
      subst hk3
      have HFN : Hid (fs = fourths false es ∧ xs = counted false es) := by
        show _ ∧ _
        unfold fourths counted
        rw [HF.out]
        exact ⟨rfl, rfl⟩
      have HI : Hid (Ints _ _ _ _) := hI
      have HE : Hid (Elems _ _ _ _) := hE
      have HB : Hid (Below _ _ _) := hbw
      clear hI hE hbw HF hL hbb
      go_wp2
      go_ret3
      obtain ⟨rfl, rfl⟩ := HFN.out
      exact ⟨_, _, rfl, HI.out, HE.out, HB.out⟩

set_option maxRecDepth 100000 in
set_option maxHeartbeats 8000000 in
theorem implFourth_shift (w : World) (B g cap : Nat) (es : List El) (hz : es.length ≤ 1000) (hL : Elems w B (.slice (some ⟨g, 0, none⟩) es.length cap) es) :
    Calls Tryz.prog 49 #[.slice (some ⟨g, 0, none⟩) es.length cap, .bool true] w fun e w' => ∃ v v', e = .returned (.tuple #[v, v', .bool true]) ∧ Ints w' w.heap.size v (fourths true es) ∧ Elems w' w.heap.size v' (counted true es) ∧ Below w.heap.size w w' := by
  obtain ⟨i0, hi0, hz0, hs0, hy0⟩ := info_parts info_int
  obtain ⟨i1, hi1, hz1, hs1, hy1⟩ := info_parts info_elem
  have hz8 : ¬ (1000 : Int) < (es.length : Int) := by omega
  go_enter Tryz.func49, Tryz.ntmps49
  go_wp2
  go_loopw [7, 8, 9, 18] (fun v6 v7 bv iv wr => FpRel w true es v6 v7 bv iv wr) (fun _ _ _ iv _ => es.length - (intOf iv).toNat)
  case atStart => exact ⟨0, [], [], false, false, Nat.zero_le _, rfl, rfl, rfl, fun _ => rfl, World.ownsRow_nil _ _ _ _, World.ownsRow_nil _ _ _ _, Below.refl _ _⟩
  case round =>
    obtain ⟨k, fs, xs, b, b', hk, rfl, rfl, hf, hbb, hI, hE, hbw⟩ := hrel
    have hfl := fourS_len true es k
    rw [hf] at hfl
    have hfl1 : fs.length ≤ k := hfl.1
    have hfl2 : xs.length ≤ k := hfl.2
    have HF : Hid (fourS true es k = (fs, xs, b')) := hf
    clear hf hfl
    by_cases hlt : k < es.length
    · obtain ⟨e, he⟩ : ∃ e, es[k]? = some e := ⟨_, List.getElem?_eq_getElem hlt⟩
      have hS2 := fourS_succ he HF.out
      obtain ⟨a0, a1, a2, a3⟩ := (hL.below hbw).cells k e he
      have hk8 : (k : Int) < (es.length : Int) := by omega
      have hsz := hbw.size
      obtain ⟨x, y, z, v⟩ := e
      simp only at a0 a1 a2 a3
      clear he HF hL
      rw [← hbb rfl, four1_shift] at hS2
      have HS2 : Hid _ := hS2
      clear hS2 hbb
      have HI : Hid (Ints _ _ _ _) := hI
      have HE : Hid (Elems _ _ _ _) := hE
      have HBW : Hid (Below _ _ _) := hbw
      have hba : Below w.heap.size w (wr.alloc (.cells #[.int .i64 x, .int .i64 y, .int .i64 z, .bool v] 72)) := hbw.alloc hbw.size _
      have HBA : Hid (Below _ _ _) := hba
      have hblk : (wr.alloc (.cells #[.int .i64 x, .int .i64 y, .int .i64 z, .bool v] 72)).heap[wr.heap.size]? = some (.cells #[.int .i64 x, .int .i64 y, .int .i64 z, .bool v] 72) := heap_alloc_new wr _
      have HBLK : Hid _ := hblk
      clear hblk hI hE hbw hba
      go_upto_region 9 with fail
      go_cut [9] from 22 to 31 (fun bv wx => bv = .bool (behB b ⟨x, y, z, v⟩) ∧ wx = wr.alloc (.cells #[.int .i64 x, .int .i64 y, .int .i64 z, .bool v] 72))
      case first =>
        clear HS2 HI HE HBW HBLK HBA a0 a1 a2 a3
        cases v
        · cases b
          · go_wp2
            go_meet
            case rel => exact ⟨rfl, rfl⟩
          · by_cases hx : x = 0
            · subst hx
              go_wp2
              go_meet
              case rel => exact ⟨rfl, rfl⟩
            · have hx2 : (x == 0) = false := by simpa using hx
              have HXB : Hid (behB true ⟨x, y, z, false⟩ = false) := by show _ = _; unfold behB; simp [hx]
              go_wp2
              go_meet
              case rel => exact ⟨by rw [HXB.out], rfl⟩
        · go_wp2
          go_meet
          case rel => exact ⟨by cases b <;> rfl, rfl⟩
      case rest =>
        obtain ⟨rfl, rfl⟩ := hcut
        clear a0 a1 a2 a3
        have SH := fun u => shift_any ⟨x, y, z, v⟩ (behB b ⟨x, y, z, v⟩) u
        obtain ⟨bb, HBB⟩ : ∃ bb, Hid (behB b ⟨x, y, z, v⟩ = bb) := ⟨_, rfl⟩
        rw [HBB.out] at SH HS2
        rw [HBB.out]
        obtain ⟨n4, x', y', z', v', HP⟩ : ∃ n4 x' y' z' v', Hid (shE ⟨x, y, z, v⟩ bb = ((n4 : Int), (⟨x', y', z', v'⟩ : El))) := ⟨_, _, _, _, _, rfl⟩
        rw [HP.out] at SH HS2
        simp only at SH
        go_wp2_with fail
        refine (SH _).mono ?_
        rintro e w2 ⟨rfl, b2⟩
        clear SH
        have hb2 : w2.heap[wr.heap.size]? = some (.cells #[.int .i64 x, .int .i64 y, .int .i64 z, .bool v] 72) := (b2.block wr.heap.size (by simp)).trans HBLK.out
        have hlt2 : wr.heap.size < w2.heap.size := (Array.getElem?_eq_some_iff.1 hb2).1
        have d0 := cell_of_row _ _ 0 _ _ _ hb2
        have d1 := cell_of_row _ _ 1 _ _ _ hb2
        have d2 := cell_of_row _ _ 2 _ _ _ hb2
        have d3 := cell_of_row _ _ 3 _ _ _ hb2
        have f0 := frozen_row4 hb2
        obtain ⟨hblkz, hgz⟩ := set4_block hb2 (.int .i64 x') (.int .i64 y') (.int .i64 z') (.bool v')
        have hI2 := World.ownsRow.kept (World.ownsRow.alloc HI.out (.cells #[.int .i64 x, .int .i64 y, .int .i64 z, .bool v] 72)) (row := none) (below_grownBy4 b2 none) (by cases h : u7.ownBlock <;> simp)
        have hE2 := World.ownsRow.kept (World.ownsRow.alloc HE.out (.cells #[.int .i64 x, .int .i64 y, .int .i64 z, .bool v] 72)) (row := none) (below_grownBy4 b2 none) (by cases h : u8.ownBlock <;> simp)
        have hlowz : ∀ j, u7.ownBlock = some j → j < wr.heap.size := fun j hj => (World.ownsRow.lt HI.out j hj).2
        have hlowy : ∀ j, u8.ownBlock = some j → j < wr.heap.size := fun j hj => (World.ownsRow.lt HE.out j hj).2
        have hIz := World.ownsRow.kept hI2 hgz (by
          cases h : u7.ownBlock with
          | none => exact .inl rfl
          | some j => exact .inr fun c => by have := hlowz j h; have := Option.some.inj c; omega)
        have hEz := World.ownsRow.kept hE2 hgz (by
          cases h : u8.ownBlock with
          | none => exact .inl rfl
          | some j => exact .inr fun c => by have := hlowy j h; have := Option.some.inj c; omega)
        have hbz : Below w.heap.size w ((((w2.setCell ⟨wr.heap.size, 0, none⟩ (.int .i64 x')).setCell ⟨wr.heap.size, 1, none⟩ (.int .i64 y')).setCell ⟨wr.heap.size, 2, none⟩ (.int .i64 z')).setCell ⟨wr.heap.size, 3, none⟩ (.bool v')) := ((((HBA.out.trans (b2.mono HBA.out.size)).setCell HBW.out.size _).setCell HBW.out.size _).setCell HBW.out.size _).setCell HBW.out.size _
        have hltz : wr.heap.size < ((((w2.setCell ⟨wr.heap.size, 0, none⟩ (.int .i64 x')).setCell ⟨wr.heap.size, 1, none⟩ (.int .i64 y')).setCell ⟨wr.heap.size, 2, none⟩ (.int .i64 z')).setCell ⟨wr.heap.size, 3, none⟩ (.bool v')).heap.size := (Array.getElem?_eq_some_iff.1 hblkz).1
        clear b2 hb2 hI2 hE2 hgz
        have HHZ : Hid (_ = _) := hblkz
        have HBZ : Hid (Below _ _ _) := hbz
        have hszz := hbz.size
        clear hblkz hbz
        unfold Ints at *
        unfold Elems at *
        go_wp2_with (at_builtin; refine wpList_append_own _ rfl _ _ 35 rfl w.heap.size 3 i0 (.int .i64 0) 1 8 Tryz.underlying35 hi0 hz0 hs0 hy0 rfl (by decide) _ _ _ rfl (hIz.alloc _) ⟨w2.heap.size, 0, none⟩ 1 1 [.int .i64 n4] rfl rfl (cells1_at _ _ _ _ (by simp)) (fun u hu => by simp at hu; subst hu; rfl) (by unfold maxLen; omega) (by omega) (by simp; omega) ?_)
        intro v6' w4 ho4 hg4 _
        have hI4 : Ints w4 w.heap.size v6' (fs ++ [n4]) := Ints.snoc ho4
        have hE4 : Elems w4 w.heap.size u8 xs := World.ownsRow.kept (hEz.alloc _) hg4 (own_type hEz hIz (by decide))
        have hb4 : w4.heap[wr.heap.size]? = some (.cells #[.int .i64 x', .int .i64 y', .int .i64 z', .bool v'] 72) := by
          rw [hg4.block wr.heap.size (by simp; omega) (fun c => by have := hlowz wr.heap.size c.symm; omega), Below.heap_alloc _ _ _ hltz]; exact HHZ.out
        have hbw4 : Below w.heap.size w w4 := Below.grown (HBZ.out.alloc HBZ.out.size _) hg4 (HBZ.out.alloc HBZ.out.size _).size (fun j hj => (World.ownsRow.lt hIz j hj).1)
        have e0 := cell_of_row _ _ 0 _ _ _ hb4
        have e1 := cell_of_row _ _ 1 _ _ _ hb4
        have e2 := cell_of_row _ _ 2 _ _ _ hb4
        have e3 := cell_of_row _ _ 3 _ _ _ hb4
        have hsz4 := hbw4.size
        have HI4 : Hid (Ints _ _ _ _) := hI4
        have HB4 : Hid (Below _ _ _) := hbw4
        clear ho4 hg4 hb4 HBLK HHZ hlowz hIz hEz hI4 hbw4 HI HE HBW HBA HBZ
        unfold Elems at hE4
        go_wp2_with (at_builtin; refine wpList_append_own _ rfl _ _ 62 rfl w.heap.size 72 i1 _ 4 32 Tryz.underlying62 hi1 hz1 hs1 hy1 rfl (by decide) _ _ _ rfl (hE4.alloc _) ⟨w4.heap.size, 0, none⟩ 1 1 (elC (⟨x', y', z', v'⟩ : El)) rfl rfl (cells4_at _ _ (⟨x', y', z', v'⟩ : El) _ (by simp)) ?hone (by unfold maxLen; omega) (by omega) (by simp; omega) ?_)
        case hone =>
          intro u hu
          simp [elC] at hu
          rcases hu with rfl | rfl | rfl | rfl <;> rfl
        intro v7' w5 ho5 hg5 _
        have hE5 : Elems w5 w.heap.size v7' (xs ++ [(⟨x', y', z', v'⟩ : El)]) := Elems.snoc ho5
        have hI5 : Ints w5 w.heap.size v6' (fs ++ [n4]) := World.ownsRow.kept (World.ownsRow.alloc HI4.out _) hg5 (own_type HI4.out hE4 (by decide))
        have hbw5 : Below w.heap.size w w5 := Below.grown (HB4.out.alloc HB4.out.size _) hg5 (HB4.out.alloc HB4.out.size _).size (fun j hj => (World.ownsRow.lt hE4 j hj).1)
        have HE5 : Hid (Elems _ _ _ _) := hE5
        have HI5 : Hid (Ints _ _ _ _) := hI5
        have HB5 : Hid (Below _ _ _) := hbw5
        clear ho5 hg5 hE5 hI5 hbw5 HI4 HB4 e0 e1 e2 e3 hE4
        go_wp2
        exact ⟨⟨k + 1, _, _, _, _, hlt, by go_num, rfl, HS2.out, (fun _ => rfl), HI5.out, HE5.out, HB5.out⟩, by simp [intOf]; omega⟩
    · have hk3 : k = es.length := by omega
      subst hk3
      have HFN : Hid (fs = fourths true es ∧ xs = counted true es) := by
        show _ ∧ _
        unfold fourths counted
        rw [HF.out]
        exact ⟨rfl, rfl⟩
      have HI : Hid (Ints _ _ _ _) := hI
      have HE : Hid (Elems _ _ _ _) := hE
      have HB : Hid (Below _ _ _) := hbw
      clear hI hE hbw HF hL hbb
      go_wp2
      go_ret3
      obtain ⟨rfl, rfl⟩ := HFN.out
      exact ⟨_, _, rfl, HI.out, HE.out, HB.out⟩

set_option maxRecDepth 100000 in
set_option maxHeartbeats 1000000 in
theorem implFourth_nil (w : World) (sh : Bool) : Calls Tryz.prog 49 #[.slice none 0 0, .bool sh] w fun e w' => ∃ v v', e = .returned (.tuple #[v, v', .bool true]) ∧ Ints w' w.heap.size v [] ∧ Elems w' w.heap.size v' [] ∧ Below w.heap.size w w' := by
  go_enter Tryz.func49, Tryz.ntmps49
  go_wp2
  go_loopw [7, 8, 9, 18] (fun v6 v7 bv iv wr => v6 = .slice none 0 0 ∧ v7 = .slice none 0 0 ∧ bv = .bool false ∧ iv = .int .i64 0 ∧ wr = w) (fun _ _ _ _ _ => 0)
  case atStart => exact ⟨rfl, rfl, rfl, rfl, rfl⟩
  case round =>
    obtain ⟨rfl, rfl, rfl, rfl, rfl⟩ := hrel
    go_wp2
    go_ret3
    exact ⟨_, _, rfl, World.ownsRow_nil _ _ _ _, World.ownsRow_nil _ _ _ _, Below.refl _ _⟩

set_option maxRecDepth 100000 in
set_option maxHeartbeats 1000000 in
theorem implFourth_long (w : World) (a : Option Addr) (n c : Nat) (sh : Bool) (h : 1000 < n) : Calls Tryz.prog 49 #[.slice a n c, .bool sh] w fun e w' => ∃ v v', e = .returned (.tuple #[v, v', .bool false]) ∧ Ints w' w.heap.size v [] ∧ Elems w' w.heap.size v' [] ∧ Below w.heap.size w w' := by
  have h2 : (1000 : Int) < (n : Int) := by omega
  go_enter Tryz.func49, Tryz.ntmps49
  go_wp2
  go_ret3
  exact ⟨_, _, rfl, World.ownsRow_nil _ _ _ _, World.ownsRow_nil _ _ _ _, Below.refl _ _⟩

theorem implFourth_ok {w : World} {B : Nat} {v : Value} {es : List El} (sh : Bool) (hz : es.length ≤ 1000) (hL : Elems w B v es) :
    Calls Tryz.prog 49 #[v, .bool sh] w fun e w' => ∃ v v', e = .returned (.tuple #[v, v', .bool true]) ∧ Ints w' w.heap.size v (fourths sh es) ∧ Elems w' w.heap.size v' (counted sh es) ∧ Below w.heap.size w w' := by
  rcases hL.form with ⟨rfl, rfl⟩ | ⟨g, cap, rfl, _, _⟩
  · exact implFourth_nil w sh
  · cases sh
    · exact implFourth_plain w B g cap es hz hL
    · exact implFourth_shift w B g cap es hz hL
end Go.Proofs.YtinjldagfhbioaaGreatDoor

namespace Go.Proofs.YtinjldagfhbioaaGreatDoor
open Go.RowKit

theorem els_slice {w : World} {B : Nat} {v : Value} {es : List El} (h : Elems w B v es) :
    ∃ a c, v = .slice a es.length c ∧ ∀ k e, es[k]? = some e → ∃ g, a = some ⟨g, 0, none⟩ ∧ g < w.heap.size ∧ w.cell? ⟨g, k * 4, none⟩ = some (.int .i64 e.first) ∧ w.cell? ⟨g, k * 4 + 1, none⟩ = some (.int .i64 e.second) ∧ w.cell? ⟨g, k * 4 + 2, none⟩ = some (.int .i64 e.third) ∧ w.cell? ⟨g, k * 4 + 3, none⟩ = some (.bool e.varies) := by
  rcases h.form with ⟨rfl, rfl⟩ | ⟨g, cap, rfl, _, _⟩
  · exact ⟨_, _, rfl, fun k e he => by simp at he⟩
  · exact ⟨_, _, rfl, fun k e he => ⟨g, rfl, (World.ownsRow.lt h g rfl).2, h.cells k e he⟩⟩

theorem ints_slice {w : World} {B : Nat} {v : Value} {l : List Int} (h : Ints w B v l) :
    ∃ a c, v = .slice a l.length c ∧ ∀ k, k < l.length → ∃ g, a = some ⟨g, 0, none⟩ ∧ g < w.heap.size ∧ w.cell? ⟨g, k, none⟩ = some (.int .i64 (at0 l k)) := by
  rcases h.form with ⟨rfl, rfl⟩ | ⟨g, cap, rfl, _, _⟩
  · exact ⟨_, _, rfl, fun k hk => by simp at hk⟩
  · exact ⟨_, _, rfl, fun k hk => ⟨g, rfl, (World.ownsRow.lt h g rfl).2, h.cell k hk⟩⟩

theorem low_ints {w : World} {B B' : Nat} {v : Value} {l : List Int} (h : Ints w B' v l) (hB : B ≤ B') : Ints w B v l := by
  refine ⟨h.1, ?_⟩
  rcases h.2 with h | ⟨g, cap, cur, h1, h2, h3⟩
  · exact .inl h
  · exact .inr ⟨g, cap, cur, h1, Nat.le_trans hB h2, h3⟩

def WtRel (w1 : World) (lv : Nat) (xs : List El) (fs : List Int) (v i : Value) (wr : World) : Prop :=
  ∃ k : Nat, k ≤ xs.length ∧ i = .int .i64 k ∧ Ints wr w1.heap.size v (wtsK lv xs fs k) ∧ Below w1.heap.size w1 wr

theorem wtsK_zero {lv : Nat} {xs : List El} {fs : List Int} {k : Nat} (h : wtL lv (elAt xs k) (at0 fs k) = 0) : wtsK lv xs fs (k + 1) = wtsK lv xs fs k := by
  rw [wtsK, ifNot_zero h, List.append_nil]
theorem wtsK_some {lv : Nat} {xs : List El} {fs : List Int} {k : Nat} (h : wtL lv (elAt xs k) (at0 fs k) ≠ 0) : wtsK lv xs fs (k + 1) = wtsK lv xs fs k ++ [wtL lv (elAt xs k) (at0 fs k)] := by
  rw [wtsK, ifNot_some h]
theorem elAt_of {xs : List El} {k : Nat} {e : El} (h : xs[k]? = some e) : elAt xs k = e := by unfold elAt; rw [h]; rfl

set_option maxRecDepth 100000 in
set_option maxHeartbeats 1000000 in
theorem level1_any (ea : Option Addr) (en ec : Nat) (fa : Option Addr) (fn fc : Nat) (w : World) :
    Calls Tryz.prog 50 #[.agg #[.slice ea en ec, .slice fa fn fc], .int .i64 1] w fun e w' => e = .returned (.func (.func 70) #[] #[.pointer (some ⟨w.heap.size, 0, none⟩)]) ∧ w' = w.alloc (.cells #[.slice ea en ec, .slice fa fn fc] 64) := by
  go_enter Tryz.func50, Tryz.ntmps50
  go_wp2
  go_ret
  exact ⟨rfl, rfl⟩

set_option maxRecDepth 100000 in
set_option maxHeartbeats 1000000 in
theorem level2_any (ea : Option Addr) (en ec : Nat) (fa : Option Addr) (fn fc : Nat) (w : World) :
    Calls Tryz.prog 50 #[.agg #[.slice ea en ec, .slice fa fn fc], .int .i64 2] w fun e w' => e = .returned (.func (.func 71) #[] #[.pointer (some ⟨w.heap.size, 0, none⟩)]) ∧ w' = w.alloc (.cells #[.slice ea en ec, .slice fa fn fc] 64) := by
  go_enter Tryz.func50, Tryz.ntmps50
  go_wp2
  go_ret
  exact ⟨rfl, rfl⟩

set_option maxRecDepth 100000 in
set_option maxHeartbeats 1000000 in
theorem level3_any (ea : Option Addr) (en ec : Nat) (fa : Option Addr) (fn fc : Nat) (w : World) :
    Calls Tryz.prog 50 #[.agg #[.slice ea en ec, .slice fa fn fc], .int .i64 3] w fun e w' => e = .returned (.func (.func 72) #[] #[.pointer (some ⟨w.heap.size, 0, none⟩)]) ∧ w' = w.alloc (.cells #[.slice ea en ec, .slice fa fn fc] 64) := by
  go_enter Tryz.func50, Tryz.ntmps50
  go_wp2
  go_ret
  exact ⟨rfl, rfl⟩

set_option maxRecDepth 100000 in
set_option maxHeartbeats 1000000 in
theorem level4_any (ea : Option Addr) (en ec : Nat) (fa : Option Addr) (fn fc : Nat) (w : World) :
    Calls Tryz.prog 50 #[.agg #[.slice ea en ec, .slice fa fn fc], .int .i64 4] w fun e w' => e = .returned (.func (.func 73) #[] #[.pointer (some ⟨w.heap.size, 0, none⟩)]) ∧ w' = w.alloc (.cells #[.slice ea en ec, .slice fa fn fc] 64) := by
  go_enter Tryz.func50, Tryz.ntmps50
  go_wp2
  go_ret
  exact ⟨rfl, rfl⟩

set_option maxRecDepth 100000 in
set_option maxHeartbeats 1000000 in
theorem clos1_any (u : World) (b g n c k : Nat) (vf : Value) (x : Int) (hb : u.cell? ⟨b, 0, none⟩ = some (.slice (some ⟨g, 0, none⟩) n c)) (_hb2 : u.cell? ⟨b, 1, none⟩ = some vf) (hk : k < n) (hx : u.cell? ⟨g, k * 4, none⟩ = some (.int .i64 x)) :
    Calls Tryz.prog 70 #[.int .i64 k, .pointer (some ⟨b, 0, none⟩)] u fun e w' => e = .returned (.int .i64 x) ∧ w' = u := by
  have hk8 : (k : Int) < (n : Int) := by omega
  go_enter Tryz.func70, Tryz.ntmps70
  go_wp2
  go_ret
  exact ⟨rfl, rfl⟩

set_option maxRecDepth 100000 in
set_option maxHeartbeats 4000000 in
theorem weights1_any {w : World} {B B' : Nat} {ve vf : Value} {xs : List El} {fs : List Int} (hE : Elems w B ve xs) (hI : Ints w B' vf fs) (hl : fs.length = xs.length) (hn : xs.length ≤ 1048576) :
    Calls Tryz.prog 26 #[.agg #[ve, vf], .int .i64 1] w fun e w' => ∃ v, e = .returned v ∧ Ints w' w.heap.size v (wts 1 xs fs) ∧ Below w.heap.size w w' := by
  obtain ⟨i0, hi0, hz0, hs0, hy0⟩ := info_parts info_int
  obtain ⟨va, va2, rfl, hcE⟩ := els_slice hE
  obtain ⟨fa, fc, rfl, hcI⟩ := ints_slice hI
  have LV := fun u => level1_any va xs.length va2 fa fs.length fc u
  have hwb : Below w.heap.size w ((w.alloc (.cells #[.slice va xs.length va2, .slice fa fs.length fc] 64)).alloc (.cells #[.slice va xs.length va2, .slice fa fs.length fc] 64)) := ((Below.refl _ _).alloc (Nat.le_refl _) _).alloc (by simp) _
  have q0 : ((w.alloc (.cells #[.slice va xs.length va2, .slice fa fs.length fc] 64)).alloc (.cells #[.slice va xs.length va2, .slice fa fs.length fc] 64)).cell? ⟨w.heap.size + 1, 0, none⟩ = some (.slice va xs.length va2) := by simp
  have q1 : ((w.alloc (.cells #[.slice va xs.length va2, .slice fa fs.length fc] 64)).alloc (.cells #[.slice va xs.length va2, .slice fa fs.length fc] 64)).cell? ⟨w.heap.size + 1, 1, none⟩ = some (.slice fa fs.length fc) := by simp
  have HL : Hid (fs.length = xs.length) := hl
  clear hE hI hl
  obtain ⟨W, HW⟩ : ∃ W, Hid (W = (w.alloc (.cells #[.slice va xs.length va2, .slice fa fs.length fc] 64)).alloc (.cells #[.slice va xs.length va2, .slice fa fs.length fc] 64)) := ⟨_, rfl⟩
  have hWs : w.heap.size + 2 ≤ W.heap.size := by rw [HW.out]; simp
  rw [← HW.out] at hwb q0 q1
  have HQ : Hid (W.cell? ⟨w.heap.size + 1, 0, none⟩ = some (.slice va xs.length va2) ∧ W.cell? ⟨w.heap.size + 1, 1, none⟩ = some (.slice fa fs.length fc)) := ⟨q0, q1⟩
  clear q0 q1
  go_enter Tryz.func26, Tryz.ntmps26
  go_wp2_with fail
  refine (LV _).mono ?_
  rintro e w1 ⟨rfl, hw1⟩
  obtain rfl : W = w1 := HW.out.trans hw1.symm
  have z0 : W.cell? ⟨w.heap.size, 0, none⟩ = some (.slice va xs.length va2) := by rw [HW.out]; simp
  clear LV hw1 HW
  go_wp2_with fail
  go_loopw [6, 15] (fun v i wr => WtRel W 1 xs fs v i wr) (fun _ i _ => xs.length - (intOf i).toNat)
  case atStart => exact ⟨0, Nat.zero_le _, rfl, World.ownsRow_nil _ _ _ _, Below.refl _ _⟩
  case round =>
    clear z0
    obtain ⟨k, hk, rfl, hR, hbw⟩ := hrel
    have hrl := wtsK_len 1 xs fs k
    by_cases hlt : k < xs.length
    · have hk8 : (k : Int) < (xs.length : Int) := by omega
      have p0 : wr.cell? ⟨w.heap.size + 1, 0, none⟩ = some (.slice va xs.length va2) := (hbw.cell (p := ⟨w.heap.size + 1, 0, none⟩) (by show w.heap.size + 1 < W.heap.size; omega)).trans HQ.out.1
      have p1 : wr.cell? ⟨w.heap.size + 1, 1, none⟩ = some (.slice fa fs.length fc) := (hbw.cell (p := ⟨w.heap.size + 1, 1, none⟩) (by show w.heap.size + 1 < W.heap.size; omega)).trans HQ.out.2
      obtain ⟨e, he⟩ : ∃ e, xs[k]? = some e := ⟨_, List.getElem?_eq_getElem hlt⟩
      obtain ⟨g, hga, hgl, y1, y2, y3, _⟩ := hcE k e he
      subst hga
      have HV : Hid (wtL 1 (elAt xs k) (at0 fs k) = e.first) := by show _ = _; rw [elAt_of he]; rfl
      have CK := clos1_any wr (w.heap.size + 1) g xs.length va2 k (.slice fa fs.length fc) e.first p0 p1 hlt ((hbw.cell (p := ⟨g, k * 4, none⟩) (by show g < W.heap.size; omega)).trans (by simpa using (hwb.cell (p := ⟨g, k * 4, none⟩) hgl).trans y1))
      clear y1 hcE hcI p0 p1
      go_wp2_with fail
      refine CK.mono ?_
      rintro e' w3 ⟨rfl, hw3⟩
      obtain rfl : wr = w3 := hw3.symm
      clear CK
      have hsz := hbw.size
      by_cases h0 : e.first = 0
      · have HS : Hid (wtsK 1 xs fs (k + 1) = wtsK 1 xs fs k) := wtsK_zero (HV.out.trans h0)
        have HR : Hid (Ints _ _ _ _) := hR
        clear hR HV
        go_wp2
        exact ⟨⟨k + 1, by omega, by go_num, by rw [HS.out]; exact HR.out, hbw⟩, by simp [intOf]; omega⟩
      · have h0' : (e.first == 0) = false := by simpa using h0
        have HS : Hid (wtsK 1 xs fs (k + 1) = wtsK 1 xs fs k ++ [e.first]) := by
          have := wtsK_some (lv := 1) (xs := xs) (fs := fs) (k := k) (by rw [HV.out]; exact h0)
          rw [HV.out] at this
          exact this
        clear HV
        unfold Ints at hR
        go_wp2_with (at_builtin; refine wpList_append_own _ rfl _ _ 35 rfl W.heap.size 3 i0 (.int .i64 0) 1 8 Tryz.underlying35 hi0 hz0 hs0 hy0 rfl (by decide) _ _ _ rfl (hR.alloc _) ⟨wr.heap.size, 0, none⟩ 1 1 [.int .i64 (e.first)] rfl rfl (cells1_at _ _ _ _ (by simp)) (fun u hu => by simp at hu; subst hu; rfl) (by unfold maxLen; omega) (by omega) (by simp; omega) ?_)
        intro v6 w4 ho4 hg4 _
        have hI4 : Ints w4 W.heap.size v6 (wtsK 1 xs fs k ++ [e.first]) := Ints.snoc ho4
        have hb4 : Below W.heap.size W w4 := Below.grown (hbw.alloc hbw.size _) hg4 (hbw.alloc hbw.size _).size (fun j hj => (World.ownsRow.lt hR j hj).1)
        have HI4 : Hid (Ints _ _ _ _) := hI4
        clear ho4 hg4 hR hI4
        go_wp2
        exact ⟨⟨k + 1, by omega, by go_num, by rw [HS.out]; exact HI4.out, hb4⟩, by simp [intOf]; omega⟩
    · have hk3 : k = xs.length := by omega
      subst hk3
      have HR : Hid (Ints _ _ _ _) := hR
      clear hR
      go_wp2
      go_ret
      exact ⟨_, rfl, low_ints HR.out (by omega), hwb.trans (hbw.mono (by omega))⟩

set_option maxRecDepth 100000 in
set_option maxHeartbeats 1000000 in
theorem clos2_any (u : World) (b g n c k : Nat) (vf : Value) (x : Int) (hb : u.cell? ⟨b, 0, none⟩ = some (.slice (some ⟨g, 0, none⟩) n c)) (_hb2 : u.cell? ⟨b, 1, none⟩ = some vf) (hk : k < n) (hx : u.cell? ⟨g, k * 4 + 1, none⟩ = some (.int .i64 x)) :
    Calls Tryz.prog 71 #[.int .i64 k, .pointer (some ⟨b, 0, none⟩)] u fun e w' => e = .returned (.int .i64 x) ∧ w' = u := by
  have hk8 : (k : Int) < (n : Int) := by omega
  go_enter Tryz.func71, Tryz.ntmps71
  go_wp2
  go_ret
  exact ⟨rfl, rfl⟩

set_option maxRecDepth 100000 in
set_option maxHeartbeats 4000000 in
theorem weights2_any {w : World} {B B' : Nat} {ve vf : Value} {xs : List El} {fs : List Int} (hE : Elems w B ve xs) (hI : Ints w B' vf fs) (hl : fs.length = xs.length) (hn : xs.length ≤ 1048576) :
    Calls Tryz.prog 26 #[.agg #[ve, vf], .int .i64 2] w fun e w' => ∃ v, e = .returned v ∧ Ints w' w.heap.size v (wts 2 xs fs) ∧ Below w.heap.size w w' := by
  obtain ⟨i0, hi0, hz0, hs0, hy0⟩ := info_parts info_int
  obtain ⟨va, va2, rfl, hcE⟩ := els_slice hE
  obtain ⟨fa, fc, rfl, hcI⟩ := ints_slice hI
  have LV := fun u => level2_any va xs.length va2 fa fs.length fc u
  have hwb : Below w.heap.size w ((w.alloc (.cells #[.slice va xs.length va2, .slice fa fs.length fc] 64)).alloc (.cells #[.slice va xs.length va2, .slice fa fs.length fc] 64)) := ((Below.refl _ _).alloc (Nat.le_refl _) _).alloc (by simp) _
  have q0 : ((w.alloc (.cells #[.slice va xs.length va2, .slice fa fs.length fc] 64)).alloc (.cells #[.slice va xs.length va2, .slice fa fs.length fc] 64)).cell? ⟨w.heap.size + 1, 0, none⟩ = some (.slice va xs.length va2) := by simp
  have q1 : ((w.alloc (.cells #[.slice va xs.length va2, .slice fa fs.length fc] 64)).alloc (.cells #[.slice va xs.length va2, .slice fa fs.length fc] 64)).cell? ⟨w.heap.size + 1, 1, none⟩ = some (.slice fa fs.length fc) := by simp
  have HL : Hid (fs.length = xs.length) := hl
  clear hE hI hl
  obtain ⟨W, HW⟩ : ∃ W, Hid (W = (w.alloc (.cells #[.slice va xs.length va2, .slice fa fs.length fc] 64)).alloc (.cells #[.slice va xs.length va2, .slice fa fs.length fc] 64)) := ⟨_, rfl⟩
  have hWs : w.heap.size + 2 ≤ W.heap.size := by rw [HW.out]; simp
  rw [← HW.out] at hwb q0 q1
  have HQ : Hid (W.cell? ⟨w.heap.size + 1, 0, none⟩ = some (.slice va xs.length va2) ∧ W.cell? ⟨w.heap.size + 1, 1, none⟩ = some (.slice fa fs.length fc)) := ⟨q0, q1⟩
  clear q0 q1
  go_enter Tryz.func26, Tryz.ntmps26
  go_wp2_with fail
  refine (LV _).mono ?_
  rintro e w1 ⟨rfl, hw1⟩
  obtain rfl : W = w1 := HW.out.trans hw1.symm
  have z0 : W.cell? ⟨w.heap.size, 0, none⟩ = some (.slice va xs.length va2) := by rw [HW.out]; simp
  clear LV hw1 HW
  go_wp2_with fail
  go_loopw [6, 15] (fun v i wr => WtRel W 2 xs fs v i wr) (fun _ i _ => xs.length - (intOf i).toNat)
  case atStart => exact ⟨0, Nat.zero_le _, rfl, World.ownsRow_nil _ _ _ _, Below.refl _ _⟩
  case round =>
    clear z0
    obtain ⟨k, hk, rfl, hR, hbw⟩ := hrel
    have hrl := wtsK_len 2 xs fs k
    by_cases hlt : k < xs.length
    · have hk8 : (k : Int) < (xs.length : Int) := by omega
      have p0 : wr.cell? ⟨w.heap.size + 1, 0, none⟩ = some (.slice va xs.length va2) := (hbw.cell (p := ⟨w.heap.size + 1, 0, none⟩) (by show w.heap.size + 1 < W.heap.size; omega)).trans HQ.out.1
      have p1 : wr.cell? ⟨w.heap.size + 1, 1, none⟩ = some (.slice fa fs.length fc) := (hbw.cell (p := ⟨w.heap.size + 1, 1, none⟩) (by show w.heap.size + 1 < W.heap.size; omega)).trans HQ.out.2
      obtain ⟨e, he⟩ : ∃ e, xs[k]? = some e := ⟨_, List.getElem?_eq_getElem hlt⟩
      obtain ⟨g, hga, hgl, y1, y2, y3, _⟩ := hcE k e he
      subst hga
      have HV : Hid (wtL 2 (elAt xs k) (at0 fs k) = e.second) := by show _ = _; rw [elAt_of he]; rfl
      have CK := clos2_any wr (w.heap.size + 1) g xs.length va2 k (.slice fa fs.length fc) e.second p0 p1 hlt ((hbw.cell (p := ⟨g, k * 4 + 1, none⟩) (by show g < W.heap.size; omega)).trans (by simpa using (hwb.cell (p := ⟨g, k * 4 + 1, none⟩) hgl).trans y2))
      clear y1 hcE hcI p0 p1
      go_wp2_with fail
      refine CK.mono ?_
      rintro e' w3 ⟨rfl, hw3⟩
      obtain rfl : wr = w3 := hw3.symm
      clear CK
      have hsz := hbw.size
      by_cases h0 : e.second = 0
      · have HS : Hid (wtsK 2 xs fs (k + 1) = wtsK 2 xs fs k) := wtsK_zero (HV.out.trans h0)
        have HR : Hid (Ints _ _ _ _) := hR
        clear hR HV
        go_wp2
        exact ⟨⟨k + 1, by omega, by go_num, by rw [HS.out]; exact HR.out, hbw⟩, by simp [intOf]; omega⟩
      · have h0' : (e.second == 0) = false := by simpa using h0
        have HS : Hid (wtsK 2 xs fs (k + 1) = wtsK 2 xs fs k ++ [e.second]) := by
          have := wtsK_some (lv := 2) (xs := xs) (fs := fs) (k := k) (by rw [HV.out]; exact h0)
          rw [HV.out] at this
          exact this
        clear HV
        unfold Ints at hR
        go_wp2_with (at_builtin; refine wpList_append_own _ rfl _ _ 35 rfl W.heap.size 3 i0 (.int .i64 0) 1 8 Tryz.underlying35 hi0 hz0 hs0 hy0 rfl (by decide) _ _ _ rfl (hR.alloc _) ⟨wr.heap.size, 0, none⟩ 1 1 [.int .i64 (e.second)] rfl rfl (cells1_at _ _ _ _ (by simp)) (fun u hu => by simp at hu; subst hu; rfl) (by unfold maxLen; omega) (by omega) (by simp; omega) ?_)
        intro v6 w4 ho4 hg4 _
        have hI4 : Ints w4 W.heap.size v6 (wtsK 2 xs fs k ++ [e.second]) := Ints.snoc ho4
        have hb4 : Below W.heap.size W w4 := Below.grown (hbw.alloc hbw.size _) hg4 (hbw.alloc hbw.size _).size (fun j hj => (World.ownsRow.lt hR j hj).1)
        have HI4 : Hid (Ints _ _ _ _) := hI4
        clear ho4 hg4 hR hI4
        go_wp2
        exact ⟨⟨k + 1, by omega, by go_num, by rw [HS.out]; exact HI4.out, hb4⟩, by simp [intOf]; omega⟩
    · have hk3 : k = xs.length := by omega
      subst hk3
      have HR : Hid (Ints _ _ _ _) := hR
      clear hR
      go_wp2
      go_ret
      exact ⟨_, rfl, low_ints HR.out (by omega), hwb.trans (hbw.mono (by omega))⟩

set_option maxRecDepth 100000 in
set_option maxHeartbeats 1000000 in
theorem clos3_any (u : World) (b g n c k : Nat) (vf : Value) (x : Int) (hb : u.cell? ⟨b, 0, none⟩ = some (.slice (some ⟨g, 0, none⟩) n c)) (_hb2 : u.cell? ⟨b, 1, none⟩ = some vf) (hk : k < n) (hx : u.cell? ⟨g, k * 4 + 2, none⟩ = some (.int .i64 x)) :
    Calls Tryz.prog 72 #[.int .i64 k, .pointer (some ⟨b, 0, none⟩)] u fun e w' => e = .returned (.int .i64 x) ∧ w' = u := by
  have hk8 : (k : Int) < (n : Int) := by omega
  go_enter Tryz.func72, Tryz.ntmps72
  go_wp2
  go_ret
  exact ⟨rfl, rfl⟩

set_option maxRecDepth 100000 in
set_option maxHeartbeats 4000000 in
theorem weights3_any {w : World} {B B' : Nat} {ve vf : Value} {xs : List El} {fs : List Int} (hE : Elems w B ve xs) (hI : Ints w B' vf fs) (hl : fs.length = xs.length) (hn : xs.length ≤ 1048576) :
    Calls Tryz.prog 26 #[.agg #[ve, vf], .int .i64 3] w fun e w' => ∃ v, e = .returned v ∧ Ints w' w.heap.size v (wts 3 xs fs) ∧ Below w.heap.size w w' := by
  obtain ⟨i0, hi0, hz0, hs0, hy0⟩ := info_parts info_int
  obtain ⟨va, va2, rfl, hcE⟩ := els_slice hE
  obtain ⟨fa, fc, rfl, hcI⟩ := ints_slice hI
  have LV := fun u => level3_any va xs.length va2 fa fs.length fc u
  have hwb : Below w.heap.size w ((w.alloc (.cells #[.slice va xs.length va2, .slice fa fs.length fc] 64)).alloc (.cells #[.slice va xs.length va2, .slice fa fs.length fc] 64)) := ((Below.refl _ _).alloc (Nat.le_refl _) _).alloc (by simp) _
  have q0 : ((w.alloc (.cells #[.slice va xs.length va2, .slice fa fs.length fc] 64)).alloc (.cells #[.slice va xs.length va2, .slice fa fs.length fc] 64)).cell? ⟨w.heap.size + 1, 0, none⟩ = some (.slice va xs.length va2) := by simp
  have q1 : ((w.alloc (.cells #[.slice va xs.length va2, .slice fa fs.length fc] 64)).alloc (.cells #[.slice va xs.length va2, .slice fa fs.length fc] 64)).cell? ⟨w.heap.size + 1, 1, none⟩ = some (.slice fa fs.length fc) := by simp
  have HL : Hid (fs.length = xs.length) := hl
  clear hE hI hl
  obtain ⟨W, HW⟩ : ∃ W, Hid (W = (w.alloc (.cells #[.slice va xs.length va2, .slice fa fs.length fc] 64)).alloc (.cells #[.slice va xs.length va2, .slice fa fs.length fc] 64)) := ⟨_, rfl⟩
  have hWs : w.heap.size + 2 ≤ W.heap.size := by rw [HW.out]; simp
  rw [← HW.out] at hwb q0 q1
  have HQ : Hid (W.cell? ⟨w.heap.size + 1, 0, none⟩ = some (.slice va xs.length va2) ∧ W.cell? ⟨w.heap.size + 1, 1, none⟩ = some (.slice fa fs.length fc)) := ⟨q0, q1⟩
  clear q0 q1
  go_enter Tryz.func26, Tryz.ntmps26
  go_wp2_with fail
  refine (LV _).mono ?_
  rintro e w1 ⟨rfl, hw1⟩
  obtain rfl : W = w1 := HW.out.trans hw1.symm
  have z0 : W.cell? ⟨w.heap.size, 0, none⟩ = some (.slice va xs.length va2) := by rw [HW.out]; simp
  clear LV hw1 HW
  go_wp2_with fail
  go_loopw [6, 15] (fun v i wr => WtRel W 3 xs fs v i wr) (fun _ i _ => xs.length - (intOf i).toNat)
  case atStart => exact ⟨0, Nat.zero_le _, rfl, World.ownsRow_nil _ _ _ _, Below.refl _ _⟩
  case round =>
    clear z0
    obtain ⟨k, hk, rfl, hR, hbw⟩ := hrel
    have hrl := wtsK_len 3 xs fs k
    by_cases hlt : k < xs.length
    · have hk8 : (k : Int) < (xs.length : Int) := by omega
      have p0 : wr.cell? ⟨w.heap.size + 1, 0, none⟩ = some (.slice va xs.length va2) := (hbw.cell (p := ⟨w.heap.size + 1, 0, none⟩) (by show w.heap.size + 1 < W.heap.size; omega)).trans HQ.out.1
      have p1 : wr.cell? ⟨w.heap.size + 1, 1, none⟩ = some (.slice fa fs.length fc) := (hbw.cell (p := ⟨w.heap.size + 1, 1, none⟩) (by show w.heap.size + 1 < W.heap.size; omega)).trans HQ.out.2
      obtain ⟨e, he⟩ : ∃ e, xs[k]? = some e := ⟨_, List.getElem?_eq_getElem hlt⟩
      obtain ⟨g, hga, hgl, y1, y2, y3, _⟩ := hcE k e he
      subst hga
      have HV : Hid (wtL 3 (elAt xs k) (at0 fs k) = e.third) := by show _ = _; rw [elAt_of he]; rfl
      have CK := clos3_any wr (w.heap.size + 1) g xs.length va2 k (.slice fa fs.length fc) e.third p0 p1 hlt ((hbw.cell (p := ⟨g, k * 4 + 2, none⟩) (by show g < W.heap.size; omega)).trans (by simpa using (hwb.cell (p := ⟨g, k * 4 + 2, none⟩) hgl).trans y3))
      clear y1 hcE hcI p0 p1
      go_wp2_with fail
      refine CK.mono ?_
      rintro e' w3 ⟨rfl, hw3⟩
      obtain rfl : wr = w3 := hw3.symm
      clear CK
      have hsz := hbw.size
      by_cases h0 : e.third = 0
      · have HS : Hid (wtsK 3 xs fs (k + 1) = wtsK 3 xs fs k) := wtsK_zero (HV.out.trans h0)
        have HR : Hid (Ints _ _ _ _) := hR
        clear hR HV
        go_wp2
        exact ⟨⟨k + 1, by omega, by go_num, by rw [HS.out]; exact HR.out, hbw⟩, by simp [intOf]; omega⟩
      · have h0' : (e.third == 0) = false := by simpa using h0
        have HS : Hid (wtsK 3 xs fs (k + 1) = wtsK 3 xs fs k ++ [e.third]) := by
          have := wtsK_some (lv := 3) (xs := xs) (fs := fs) (k := k) (by rw [HV.out]; exact h0)
          rw [HV.out] at this
          exact this
        clear HV
        unfold Ints at hR
        go_wp2_with (at_builtin; refine wpList_append_own _ rfl _ _ 35 rfl W.heap.size 3 i0 (.int .i64 0) 1 8 Tryz.underlying35 hi0 hz0 hs0 hy0 rfl (by decide) _ _ _ rfl (hR.alloc _) ⟨wr.heap.size, 0, none⟩ 1 1 [.int .i64 (e.third)] rfl rfl (cells1_at _ _ _ _ (by simp)) (fun u hu => by simp at hu; subst hu; rfl) (by unfold maxLen; omega) (by omega) (by simp; omega) ?_)
        intro v6 w4 ho4 hg4 _
        have hI4 : Ints w4 W.heap.size v6 (wtsK 3 xs fs k ++ [e.third]) := Ints.snoc ho4
        have hb4 : Below W.heap.size W w4 := Below.grown (hbw.alloc hbw.size _) hg4 (hbw.alloc hbw.size _).size (fun j hj => (World.ownsRow.lt hR j hj).1)
        have HI4 : Hid (Ints _ _ _ _) := hI4
        clear ho4 hg4 hR hI4
        go_wp2
        exact ⟨⟨k + 1, by omega, by go_num, by rw [HS.out]; exact HI4.out, hb4⟩, by simp [intOf]; omega⟩
    · have hk3 : k = xs.length := by omega
      subst hk3
      have HR : Hid (Ints _ _ _ _) := hR
      clear hR
      go_wp2
      go_ret
      exact ⟨_, rfl, low_ints HR.out (by omega), hwb.trans (hbw.mono (by omega))⟩

set_option maxRecDepth 100000 in
set_option maxHeartbeats 1000000 in
theorem clos4_any (u : World) (b g n c k : Nat) (ve : Value) (x : Int) (_hb2 : u.cell? ⟨b, 0, none⟩ = some ve) (hb : u.cell? ⟨b, 1, none⟩ = some (.slice (some ⟨g, 0, none⟩) n c)) (hk : k < n) (hx : u.cell? ⟨g, k, none⟩ = some (.int .i64 x)) :
    Calls Tryz.prog 73 #[.int .i64 k, .pointer (some ⟨b, 0, none⟩)] u fun e w' => e = .returned (.int .i64 x) ∧ w' = u := by
  have hk8 : (k : Int) < (n : Int) := by omega
  go_enter Tryz.func73, Tryz.ntmps73
  go_wp2
  go_ret
  exact ⟨rfl, rfl⟩

set_option maxRecDepth 100000 in
set_option maxHeartbeats 4000000 in
theorem weights4_any {w : World} {B B' : Nat} {ve vf : Value} {xs : List El} {fs : List Int} (hE : Elems w B ve xs) (hI : Ints w B' vf fs) (hl : fs.length = xs.length) (hn : xs.length ≤ 1048576) :
    Calls Tryz.prog 26 #[.agg #[ve, vf], .int .i64 4] w fun e w' => ∃ v, e = .returned v ∧ Ints w' w.heap.size v (wts 4 xs fs) ∧ Below w.heap.size w w' := by
  obtain ⟨i0, hi0, hz0, hs0, hy0⟩ := info_parts info_int
  obtain ⟨va, va2, rfl, hcE⟩ := els_slice hE
  obtain ⟨fa, fc, rfl, hcI⟩ := ints_slice hI
  have LV := fun u => level4_any va xs.length va2 fa fs.length fc u
  have hwb : Below w.heap.size w ((w.alloc (.cells #[.slice va xs.length va2, .slice fa fs.length fc] 64)).alloc (.cells #[.slice va xs.length va2, .slice fa fs.length fc] 64)) := ((Below.refl _ _).alloc (Nat.le_refl _) _).alloc (by simp) _
  have q0 : ((w.alloc (.cells #[.slice va xs.length va2, .slice fa fs.length fc] 64)).alloc (.cells #[.slice va xs.length va2, .slice fa fs.length fc] 64)).cell? ⟨w.heap.size + 1, 0, none⟩ = some (.slice va xs.length va2) := by simp
  have q1 : ((w.alloc (.cells #[.slice va xs.length va2, .slice fa fs.length fc] 64)).alloc (.cells #[.slice va xs.length va2, .slice fa fs.length fc] 64)).cell? ⟨w.heap.size + 1, 1, none⟩ = some (.slice fa fs.length fc) := by simp
  have HL : Hid (fs.length = xs.length) := hl
  clear hE hI hl
  obtain ⟨W, HW⟩ : ∃ W, Hid (W = (w.alloc (.cells #[.slice va xs.length va2, .slice fa fs.length fc] 64)).alloc (.cells #[.slice va xs.length va2, .slice fa fs.length fc] 64)) := ⟨_, rfl⟩
  have hWs : w.heap.size + 2 ≤ W.heap.size := by rw [HW.out]; simp
  rw [← HW.out] at hwb q0 q1
  have HQ : Hid (W.cell? ⟨w.heap.size + 1, 0, none⟩ = some (.slice va xs.length va2) ∧ W.cell? ⟨w.heap.size + 1, 1, none⟩ = some (.slice fa fs.length fc)) := ⟨q0, q1⟩
  clear q0 q1
  go_enter Tryz.func26, Tryz.ntmps26
  go_wp2_with fail
  refine (LV _).mono ?_
  rintro e w1 ⟨rfl, hw1⟩
  obtain rfl : W = w1 := HW.out.trans hw1.symm
  have z0 : W.cell? ⟨w.heap.size, 0, none⟩ = some (.slice va xs.length va2) := by rw [HW.out]; simp
  clear LV hw1 HW
  go_wp2_with fail
  go_loopw [6, 15] (fun v i wr => WtRel W 4 xs fs v i wr) (fun _ i _ => xs.length - (intOf i).toNat)
  case atStart => exact ⟨0, Nat.zero_le _, rfl, World.ownsRow_nil _ _ _ _, Below.refl _ _⟩
  case round =>
    clear z0
    obtain ⟨k, hk, rfl, hR, hbw⟩ := hrel
    have hrl := wtsK_len 4 xs fs k
    by_cases hlt : k < xs.length
    · have hk8 : (k : Int) < (xs.length : Int) := by omega
      have p0 : wr.cell? ⟨w.heap.size + 1, 0, none⟩ = some (.slice va xs.length va2) := (hbw.cell (p := ⟨w.heap.size + 1, 0, none⟩) (by show w.heap.size + 1 < W.heap.size; omega)).trans HQ.out.1
      have p1 : wr.cell? ⟨w.heap.size + 1, 1, none⟩ = some (.slice fa fs.length fc) := (hbw.cell (p := ⟨w.heap.size + 1, 1, none⟩) (by show w.heap.size + 1 < W.heap.size; omega)).trans HQ.out.2
      have hkf : k < fs.length := by have := HL.out; omega
      obtain ⟨g, hga, hgl, y1⟩ := hcI k hkf
      subst hga
      have HV : Hid (wtL 4 (elAt xs k) (at0 fs k) = at0 fs k) := by show _ = _; rfl
      have CK := clos4_any wr (w.heap.size + 1) g fs.length fc k (.slice va xs.length va2) (at0 fs k) p0 p1 hkf ((hbw.cell (p := ⟨g, k, none⟩) (by show g < W.heap.size; omega)).trans (by simpa using (hwb.cell (p := ⟨g, k, none⟩) hgl).trans y1))
      clear y1 hcE hcI p0 p1
      go_wp2_with fail
      refine CK.mono ?_
      rintro e' w3 ⟨rfl, hw3⟩
      obtain rfl : wr = w3 := hw3.symm
      clear CK
      have hsz := hbw.size
      by_cases h0 : at0 fs k = 0
      · have HS : Hid (wtsK 4 xs fs (k + 1) = wtsK 4 xs fs k) := wtsK_zero (HV.out.trans h0)
        have HR : Hid (Ints _ _ _ _) := hR
        clear hR HV
        go_wp2
        exact ⟨⟨k + 1, by omega, by go_num, by rw [HS.out]; exact HR.out, hbw⟩, by simp [intOf]; omega⟩
      · have h0' : (at0 fs k == 0) = false := by simpa using h0
        have HS : Hid (wtsK 4 xs fs (k + 1) = wtsK 4 xs fs k ++ [at0 fs k]) := by
          have := wtsK_some (lv := 4) (xs := xs) (fs := fs) (k := k) (by rw [HV.out]; exact h0)
          rw [HV.out] at this
          exact this
        clear HV
        unfold Ints at hR
        go_wp2_with (at_builtin; refine wpList_append_own _ rfl _ _ 35 rfl W.heap.size 3 i0 (.int .i64 0) 1 8 Tryz.underlying35 hi0 hz0 hs0 hy0 rfl (by decide) _ _ _ rfl (hR.alloc _) ⟨wr.heap.size, 0, none⟩ 1 1 [.int .i64 (at0 fs k)] rfl rfl (cells1_at _ _ _ _ (by simp)) (fun u hu => by simp at hu; subst hu; rfl) (by unfold maxLen; omega) (by omega) (by simp; omega) ?_)
        intro v6 w4 ho4 hg4 _
        have hI4 : Ints w4 W.heap.size v6 (wtsK 4 xs fs k ++ [at0 fs k]) := Ints.snoc ho4
        have hb4 : Below W.heap.size W w4 := Below.grown (hbw.alloc hbw.size _) hg4 (hbw.alloc hbw.size _).size (fun j hj => (World.ownsRow.lt hR j hj).1)
        have HI4 : Hid (Ints _ _ _ _) := hI4
        clear ho4 hg4 hR hI4
        go_wp2
        exact ⟨⟨k + 1, by omega, by go_num, by rw [HS.out]; exact HI4.out, hb4⟩, by simp [intOf]; omega⟩
    · have hk3 : k = xs.length := by omega
      subst hk3
      have HR : Hid (Ints _ _ _ _) := hR
      clear hR
      go_wp2
      go_ret
      exact ⟨_, rfl, low_ints HR.out (by omega), hwb.trans (hbw.mono (by omega))⟩
end Go.Proofs.YtinjldagfhbioaaGreatDoor

namespace Go.Proofs.YtinjldagfhbioaaGreatDoor
open Go.RowKit

theorem setCell_grown (u : World) (b o : Nat) (x : Value) : u.grownBy (u.setCell ⟨b, o, none⟩ x) (some b) := by
  refine ⟨rfl, rfl, rfl, by simp, fun k hk hne => ?_⟩
  have h : b ≠ k := fun e => hne (by rw [e])
  simp [World.setCell, Array.getElem?_modify, h]

theorem grown_ge {w u u' : World} {b : Nat} (h : Below w.heap.size w u) (hg : u.grownBy u' (some b)) (hb : w.heap.size ≤ b) : Below w.heap.size w u' := Below.grown h hg h.size (fun j hj => by cases hj; exact hb)
end Go.Proofs.YtinjldagfhbioaaGreatDoor

namespace Go.Proofs.YtinjldagfhbioaaGreatDoor

theorem place_out {l : List Int} {r : Int} (h : r ∉ l) : placeIn l r = none := by
  unfold placeIn
  rw [List.findIdx?_eq_none_iff]
  intro x hx
  simp only [beq_eq_false_iff_ne]
  intro e
  exact h (e ▸ hx)

theorem place_in {l : List Int} {r : Int} (h : r ∈ l) : ∃ i, placeIn l r = some i ∧ i < l.length := by
  cases e : placeIn l r with
  | some i => exact ⟨i, rfl, by unfold placeIn at e; exact (List.findIdx?_eq_some_iff_getElem.1 e).1⟩
  | none =>
    unfold placeIn at e
    have := List.findIdx?_eq_none_iff.1 e r h
    simp at this

/-- Where a rune stands among those that vary; less than 0: nowhere. -/
def idxV (r : Int) : Int := match placeIn vsl r with
  | some i => (i : Int)
  | none => -1

theorem base_vs {r : Int} {i : Nat} (h : placeIn vsl r = some i) : base r = [⟨1 + (i : Int), 32, 2, true⟩] := by unfold base; rw [h]
theorem base_mk {r : Int} {i : Nat} (h0 : placeIn vsl r = none) (h : placeIn mkl r = some i) : base r = [⟨0, 40 + (i : Int), 2, false⟩] := by unfold base; rw [h0]; simp only; rw [h]
theorem base_rest {r : Int} (h0 : placeIn vsl r = none) (h : placeIn mkl r = none) : base r = baseRest r := by unfold base; rw [h0]; simp only; rw [h]

theorem vsl_bd : ∀ x ∈ vsl, 32 ≤ x ∧ x ≤ 126 ∧ ¬ (48 ≤ x ∧ x ≤ 57) ∧ ¬ (97 ≤ x ∧ x ≤ 122) ∧ ¬ (65 ≤ x ∧ x ≤ 90) := by decide
theorem mkl_bd : ∀ x ∈ mkl, 128 ≤ x := by decide
theorem vs_far {r : Int} (h : ¬ (32 ≤ r ∧ r ≤ 126)) : placeIn vsl r = none := place_out fun c => h ⟨(vsl_bd r c).1, (vsl_bd r c).2.1⟩
theorem mk_far {r : Int} (h : r < 128) : placeIn mkl r = none := place_out fun c => by have := mkl_bd r c; omega

theorem base_ctl {r : Int} (_h0 : 0 ≤ r) (h : r ≤ 31 ∨ r = 127) : base r = [] := by
  rw [base_rest (vs_far (by omega)) (mk_far (by omega))]
  unfold baseRest
  rw [if_pos (by omega)]

theorem base_digit {r : Int} (h : 48 ≤ r ∧ r ≤ 57) : base r = [⟨2000 + 100 * (r - 48), 32, 2, false⟩] := by
  rw [base_rest (place_out fun c => (vsl_bd r c).2.2.1 h) (mk_far (by omega))]
  unfold baseRest
  rw [if_neg (by omega), if_pos h]

theorem base_small {r : Int} (h : 97 ≤ r ∧ r ≤ 122) : base r = [⟨4000 + 200 * (r - 97), 32, 2, false⟩] := by
  rw [base_rest (place_out fun c => (vsl_bd r c).2.2.2.1 h) (mk_far (by omega))]
  unfold baseRest
  rw [if_neg (by omega), if_neg (by omega), if_pos h]

theorem base_cap {r : Int} (h : 65 ≤ r ∧ r ≤ 90) : base r = [⟨4000 + 200 * (r - 65), 32, 8, false⟩] := by
  rw [base_rest (place_out fun c => (vsl_bd r c).2.2.2.2 h) (mk_far (by omega))]
  unfold baseRest
  rw [if_neg (by omega), if_neg (by omega), if_neg (by omega), if_pos h]

theorem base_two {r : Int} (h0 : placeIn vsl r = none) (h : placeIn mkl r = none) (h1 : ¬ (r ≤ 31 ∨ r = 127)) (h2 : ¬ (48 ≤ r ∧ r ≤ 57)) (h3 : ¬ (97 ≤ r ∧ r ≤ 122)) (h4 : ¬ (65 ≤ r ∧ r ≤ 90)) : base r = [⟨60000 + r / 32768, 32, 2, false⟩, ⟨32768 + r % 32768, 0, 0, false⟩] := by
  rw [base_rest h0 h]
  unfold baseRest
  rw [if_neg (by omega), if_neg h2, if_neg h3, if_neg h4]
end Go.Proofs.YtinjldagfhbioaaGreatDoor

namespace Go.Proofs.YtinjldagfhbioaaGreatDoor
open Go.RowKit

def vsB : ByteArray := ⟨#[32, 95, 45, 44, 59, 58, 33, 63, 46]⟩

set_option maxRecDepth 100000 in
set_option maxHeartbeats 1000000 in
theorem liteByte_any (s : ByteArray) (c : Int) (w : World) :
    Calls Tryz.prog 113 #[.string s, .int .u8 c] w fun e w' => e = .returned (.int .i64 (Lib.indexByte s.data.toList c.toNat.toUInt8)) ∧ w' = w := by
  go_enter Tryz.func113, Tryz.ntmps113
  go_wp2
  rw [run_callFunc_extern Tryz.func114 (by kernel_rfl) (by kernel_rfl) (by kernel_rfl) (e := Extern.BytealgIndexByte.indexByte) (by kernel_rfl), Lib.run_indexByteString]
  simp only [Result.andThen]
  rw [Oper.upon_value]
  go_wp2
  go_ret
  exact ⟨rfl, rfl⟩

set_option maxRecDepth 100000 in
set_option maxHeartbeats 1000000 in
theorem strByte_any (s : ByteArray) (c : Int) (w : World) :
    Calls Tryz.prog 108 #[.string s, .int .u8 c] w fun e w' => e = .returned (.int .i64 (Lib.indexByte s.data.toList c.toNat.toUInt8)) ∧ w' = w := by
  have A := fun w => liteByte_any s c w
  go_enter Tryz.func108, Tryz.ntmps108
  go_wp2_with fail
  refine (A _).mono ?_
  rintro e w1 ⟨rfl, rfl⟩
  clear A
  go_wp2
  go_ret
  exact ⟨rfl, rfl⟩

theorem idx_low : ((List.range 128).all fun k => Lib.indexByte vsB.data.toList ((k : Int).toNat.toUInt8) == idxV (k : Int)) = true := by kernel_rfl

theorem idx_lowAt {r : Int} (h0 : 0 ≤ r) (h1 : r < 128) : Lib.indexByte vsB.data.toList (r.toNat.toUInt8) = idxV r := by
  obtain ⟨k, rfl⟩ : ∃ k : Nat, r = (k : Int) := ⟨r.toNat, by omega⟩
  exact eq_of_beq (List.all_eq_true.1 idx_low k (List.mem_range.2 (by omega)))

theorem vs_dec (p : Nat) (hp : p < 9) : (Utf8.decode ⟨#[32, 95, 45, 44, 59, 58, 33, 63, 46]⟩ p).2 = 1 ∧ ((Utf8.decode ⟨#[32, 95, 45, 44, 59, 58, 33, 63, 46]⟩ p).1 : Int) ≠ 65533 :=
  (by decide : ∀ q : Fin 9, (Utf8.decode ⟨#[32, 95, 45, 44, 59, 58, 33, 63, 46]⟩ q.1).2 = 1 ∧ ((Utf8.decode ⟨#[32, 95, 45, 44, 59, 58, 33, 63, 46]⟩ q.1).1 : Int) ≠ 65533) ⟨p, hp⟩

theorem idx_none {r : Int} (h : 128 ≤ r) : idxV r = -1 := by
  unfold idxV
  rw [vs_far (by omega)]

set_option maxRecDepth 100000 in
set_option maxHeartbeats 4000000 in
theorem idxRune_low (r : Int) (h0 : 0 ≤ r) (h1 : r < 128) (w : World) :
    Calls Tryz.prog 104 #[.string ⟨#[32, 95, 45, 44, 59, 58, 33, 63, 46]⟩, .int .i32 r] w fun e w' => e = .returned (.int .i64 (idxV r)) ∧ w' = w := by
  have A := fun w => strByte_any vsB r w
  rw [idx_lowAt h0 h1] at A
  unfold vsB at A
  go_enter Tryz.func104, Tryz.ntmps104
  go_wp2_with fail
  refine (A _).mono ?_
  rintro e w1 ⟨rfl, rfl⟩
  clear A
  go_wp2
  go_ret
  exact ⟨rfl, rfl⟩

set_option maxRecDepth 100000 in
set_option maxHeartbeats 4000000 in
theorem idxRune_bad (w : World) :
    Calls Tryz.prog 104 #[.string ⟨#[32, 95, 45, 44, 59, 58, 33, 63, 46]⟩, .int .i32 65533] w fun e w' => e = .returned (.int .i64 (-1)) ∧ Below w.heap.size w w' := by
  go_enter Tryz.func104, Tryz.ntmps104
  go_wp2_with fail
  go_loopw [4] (fun v wr => v = .int .i64 0 ∧ ∃ p : Nat, p ≤ 9 ∧ wr.heap[w.heap.size]? = some (.stringIter ⟨#[32, 95, 45, 44, 59, 58, 33, 63, 46]⟩ p) ∧ Below w.heap.size w wr) (fun _ wr => 9 - wr.iterPos w.heap.size)
  case atStart => exact ⟨rfl, 0, Nat.zero_le _, World.iter_heap w _ 0, (Below.refl _ _).alloc (Nat.le_refl _) _⟩
  case round =>
    obtain ⟨rfl, p, hp, hit, hbw⟩ := hrel
    have hpos0 := iterPos_of hit
    by_cases hlt : p < 9
    · have hnx : ∀ ty, (Instr.next (.pointer (some ⟨w.heap.size, 0, none⟩)) true ty).run Tryz.prog wr = _ := fun ty => Lib.run_next_any_at wr w.heap.size ⟨#[32, 95, 45, 44, 59, 58, 33, 63, 46]⟩ p ty hit hlt
      obtain ⟨d1, d2⟩ := vs_dec p hlt
      have hit2 := Lib.iterAt_heap wr w.heap.size ⟨#[32, 95, 45, 44, 59, 58, 33, 63, 46]⟩ p (p + (Utf8.decode ⟨#[32, 95, 45, 44, 59, 58, 33, 63, 46]⟩ p).2) hit
      have hbw2 := Lib.below_iterAt hbw (k := w.heap.size) (Nat.le_refl _) ⟨#[32, 95, 45, 44, 59, 58, 33, 63, 46]⟩ (p + (Utf8.decode ⟨#[32, 95, 45, 44, 59, 58, 33, 63, 46]⟩ p).2)
      obtain ⟨W1, hW1⟩ : ∃ W1, W1 = wr.iterAt w.heap.size ⟨#[32, 95, 45, 44, 59, 58, 33, 63, 46]⟩ (p + (Utf8.decode ⟨#[32, 95, 45, 44, 59, 58, 33, 63, 46]⟩ p).2) := ⟨_, rfl⟩
      rw [← hW1] at hnx hit2 hbw2
      rw [d1] at hit2
      have d3 : (((Utf8.decode ⟨#[32, 95, 45, 44, 59, 58, 33, 63, 46]⟩ p).1 : Int) == 65533) = false := by simpa using d2
      generalize ((Utf8.decode ⟨#[32, 95, 45, 44, 59, 58, 33, 63, 46]⟩ p).1 : Int) = x at *
      clear hW1 hit hbw d1 d2
      go_wp2
      exact ⟨⟨rfl, p + 1, by omega, hit2, hbw2⟩, by rw [iterPos_of hit2, hpos0]; omega⟩
    · have hnx : ∀ ty, (Instr.next (.pointer (some ⟨w.heap.size, 0, none⟩)) true ty).run Tryz.prog wr = _ := fun ty => Lib.run_next_end_at wr w.heap.size ⟨#[32, 95, 45, 44, 59, 58, 33, 63, 46]⟩ p ty hit hlt
      go_wp2
      go_ret
      exact ⟨rfl, hbw⟩

set_option maxRecDepth 100000 in
set_option maxHeartbeats 4000000 in
theorem valid_any (r : Int) (h0 : 128 ≤ r) (h1 : r ≤ 1114111) (h2 : ¬ (55296 ≤ r ∧ r ≤ 57343)) (w : World) :
    Calls Tryz.prog 109 #[.int .i32 r] w fun e w' => e = .returned (.bool true) ∧ w' = w := by
  go_enter Tryz.func109, Tryz.ntmps109
  by_cases h3 : r < 55296
  · go_wp2
    go_ret
    exact ⟨rfl, rfl⟩
  · have h4 : 57343 < r := by omega
    clear h2
    go_wp2
    go_ret
    exact ⟨rfl, rfl⟩

theorem enc_cases (r : Int) (h0 : 128 ≤ r) (h1 : r ≤ 1114111) (h2 : ¬ (55296 ≤ r ∧ r ≤ 57343)) : (∃ a z : UInt8, Utf8.encode r = ⟨#[a, z]⟩ ∧ 128 ≤ z.toNat) ∨ (∃ a b z : UInt8, Utf8.encode r = ⟨#[a, b, z]⟩ ∧ 128 ≤ z.toNat) ∨ (∃ a b c z : UInt8, Utf8.encode r = ⟨#[a, b, c, z]⟩ ∧ 128 ≤ z.toNat) := by
  have hv : Utf8.valid r = true := by
    unfold Utf8.valid
    simp
    omega
  have hz : ∀ n : Nat, 128 ≤ (UInt8.ofNat (0x80 + n % 64)).toNat := by
    intro n
    rw [UInt8.toNat_ofNat']
    omega
  unfold Utf8.encode
  rw [hv]
  simp only [if_true]
  rw [if_neg (by omega)]
  split
  · exact .inl ⟨_, _, rfl, hz _⟩
  · split
    · exact .inr (.inl ⟨_, _, _, rfl, hz _⟩)
    · exact .inr (.inr ⟨_, _, _, _, rfl, hz _⟩)

theorem vs_miss {z : UInt8} (h : 128 ≤ z.toNat) (n : Nat) : Lib.indexByte ((⟨#[32, 95, 45, 44, 59, 58, 33, 63, 46]⟩ : ByteArray).extract n 9).data.toList ((z.toNat : Int).toNat.toUInt8) = -1 := by
  have hz2 : (z.toNat : Int).toNat.toUInt8 = z := by simp
  rw [hz2]
  have hge := Lib.indexByte_ge ((⟨#[32, 95, 45, 44, 59, 58, 33, 63, 46]⟩ : ByteArray).extract n 9).data.toList z
  by_cases c : Lib.indexByte ((⟨#[32, 95, 45, 44, 59, 58, 33, 63, 46]⟩ : ByteArray).extract n 9).data.toList z = -1
  · exact c
  · exfalso
    obtain ⟨m, hm⟩ : ∃ m : Nat, Lib.indexByte ((⟨#[32, 95, 45, 44, 59, 58, 33, 63, 46]⟩ : ByteArray).extract n 9).data.toList z = (m : Int) := ⟨(Lib.indexByte ((⟨#[32, 95, 45, 44, 59, 58, 33, 63, 46]⟩ : ByteArray).extract n 9).data.toList z).toNat, by omega⟩
    obtain ⟨h1, _⟩ := Lib.indexByte_some hm
    have h2 := List.mem_of_getElem? h1
    rw [ByteArray.data_extract, Array.toList_extract, List.extract_eq_take_drop] at h2
    have h3 := List.mem_of_mem_drop (List.mem_of_mem_take h2)
    have h4 : ∀ x ∈ (⟨#[32, 95, 45, 44, 59, 58, 33, 63, 46]⟩ : ByteArray).data.toList, x.toNat < 128 := by decide
    have := h4 z h3
    omega

set_option maxRecDepth 100000 in
set_option maxHeartbeats 4000000 in
theorem idxRune_two (r : Int) (a z : UInt8) (hE : Utf8.encode r = ⟨#[a, z]⟩) (hz : 128 ≤ z.toNat) (h0 : 128 ≤ r) (h1 : r ≤ 1114111) (h2 : ¬ (55296 ≤ r ∧ r ≤ 57343)) (h3 : r ≠ 65533) (w : World) :
    Calls Tryz.prog 104 #[.string ⟨#[32, 95, 45, 44, 59, 58, 33, 63, 46]⟩, .int .i32 r] w fun e w' => e = .returned (.int .i64 (-1)) ∧ Below w.heap.size w w' := by
  have V := fun w => valid_any r h0 h1 h2 w
  have h4 : (r == 65533) = false := by simpa using h3
  go_enter Tryz.func104, Tryz.ntmps104
  go_wp2_with fail
  refine (V _).mono ?_
  rintro e w1 ⟨rfl, rfl⟩
  clear V
  go_wp2_with fail
  go_step3
  go_wp2_with fail
  go_loopw [9] (fun v wr => wr = w1 ∧ v = .int .i64 1) (fun _ _ => 0)
  case atStart => exact ⟨rfl, rfl⟩
  case round =>
    obtain ⟨rfl, rfl⟩ := hrel
    have i1 : ∀ w, (Instr.index 9 (.string ⟨#[32, 95, 45, 44, 59, 58, 33, 63, 46]⟩) (.int .i64 1)).run Tryz.prog w = .ok (.int .u8 95) w := fun _ => by kernel_rfl
    have i2 : ∀ w, (Instr.index 9 (.string ⟨#[a, z]⟩) (.int .i64 1)).run Tryz.prog w = .ok (.int .u8 z.toNat) w := fun _ => by kernel_rfl
    have i3 : ((95 : Int) != (z.toNat : Int)) = true := by simp; omega
    have i4 : ∀ w, (Instr.slice 9 (.string ⟨#[32, 95, 45, 44, 59, 58, 33, 63, 46]⟩) (some (.int .i64 (IntKind.i64.wrap 2))) none none).run Tryz.prog w = .ok (.string ((⟨#[32, 95, 45, 44, 59, 58, 33, 63, 46]⟩ : ByteArray).extract 2 9)) w := fun _ => by kernel_rfl
    have A := fun w => strByte_any ((⟨#[32, 95, 45, 44, 59, 58, 33, 63, 46]⟩ : ByteArray).extract 2 9) z.toNat w
    rw [vs_miss hz 2] at A
    generalize ((⟨#[32, 95, 45, 44, 59, 58, 33, 63, 46]⟩ : ByteArray).extract 2 9) = sx at *
    go_wp2_with fail
    go_step3
    go_wp2_with fail
    go_quiet (fail)
    go_wp2_with fail
    go_quiet ((go_at_call 108; exact (A _).mono fun e w' h => ⟨h.1, _, h.2⟩))
    go_wp2
    change bodyPost _ _ (fun e w' => e = Ending.returned (.int .i64 (-1)) ∧ Below wr.heap.size wr w') Exit.ret _ _
    go_ret
    exact ⟨rfl, below_drewN (Below.refl _ _) _⟩

set_option maxRecDepth 100000 in
set_option maxHeartbeats 4000000 in
theorem idxRune_three (r : Int) (a b z : UInt8) (hE : Utf8.encode r = ⟨#[a, b, z]⟩) (hz : 128 ≤ z.toNat) (h0 : 128 ≤ r) (h1 : r ≤ 1114111) (h2 : ¬ (55296 ≤ r ∧ r ≤ 57343)) (h3 : r ≠ 65533) (w : World) :
    Calls Tryz.prog 104 #[.string ⟨#[32, 95, 45, 44, 59, 58, 33, 63, 46]⟩, .int .i32 r] w fun e w' => e = .returned (.int .i64 (-1)) ∧ Below w.heap.size w w' := by
  have V := fun w => valid_any r h0 h1 h2 w
  have h4 : (r == 65533) = false := by simpa using h3
  go_enter Tryz.func104, Tryz.ntmps104
  go_wp2_with fail
  refine (V _).mono ?_
  rintro e w1 ⟨rfl, rfl⟩
  clear V
  go_wp2_with fail
  go_step3
  go_wp2_with fail
  go_loopw [9] (fun v wr => wr = w1 ∧ v = .int .i64 2) (fun _ _ => 0)
  case atStart => exact ⟨rfl, rfl⟩
  case round =>
    obtain ⟨rfl, rfl⟩ := hrel
    have i1 : ∀ w, (Instr.index 9 (.string ⟨#[32, 95, 45, 44, 59, 58, 33, 63, 46]⟩) (.int .i64 2)).run Tryz.prog w = .ok (.int .u8 45) w := fun _ => by kernel_rfl
    have i2 : ∀ w, (Instr.index 9 (.string ⟨#[a, b, z]⟩) (.int .i64 2)).run Tryz.prog w = .ok (.int .u8 z.toNat) w := fun _ => by kernel_rfl
    have i3 : ((45 : Int) != (z.toNat : Int)) = true := by simp; omega
    have i4 : ∀ w, (Instr.slice 9 (.string ⟨#[32, 95, 45, 44, 59, 58, 33, 63, 46]⟩) (some (.int .i64 (IntKind.i64.wrap 3))) none none).run Tryz.prog w = .ok (.string ((⟨#[32, 95, 45, 44, 59, 58, 33, 63, 46]⟩ : ByteArray).extract 3 9)) w := fun _ => by kernel_rfl
    have A := fun w => strByte_any ((⟨#[32, 95, 45, 44, 59, 58, 33, 63, 46]⟩ : ByteArray).extract 3 9) z.toNat w
    rw [vs_miss hz 3] at A
    generalize ((⟨#[32, 95, 45, 44, 59, 58, 33, 63, 46]⟩ : ByteArray).extract 3 9) = sx at *
    go_wp2_with fail
    go_step3
    go_wp2_with fail
    go_quiet (fail)
    go_wp2_with fail
    go_quiet ((go_at_call 108; exact (A _).mono fun e w' h => ⟨h.1, _, h.2⟩))
    go_wp2
    change bodyPost _ _ (fun e w' => e = Ending.returned (.int .i64 (-1)) ∧ Below wr.heap.size wr w') Exit.ret _ _
    go_ret
    exact ⟨rfl, below_drewN (Below.refl _ _) _⟩

set_option maxRecDepth 100000 in
set_option maxHeartbeats 4000000 in
theorem idxRune_four (r : Int) (a b c z : UInt8) (hE : Utf8.encode r = ⟨#[a, b, c, z]⟩) (hz : 128 ≤ z.toNat) (h0 : 128 ≤ r) (h1 : r ≤ 1114111) (h2 : ¬ (55296 ≤ r ∧ r ≤ 57343)) (h3 : r ≠ 65533) (w : World) :
    Calls Tryz.prog 104 #[.string ⟨#[32, 95, 45, 44, 59, 58, 33, 63, 46]⟩, .int .i32 r] w fun e w' => e = .returned (.int .i64 (-1)) ∧ Below w.heap.size w w' := by
  have V := fun w => valid_any r h0 h1 h2 w
  have h4 : (r == 65533) = false := by simpa using h3
  go_enter Tryz.func104, Tryz.ntmps104
  go_wp2_with fail
  refine (V _).mono ?_
  rintro e w1 ⟨rfl, rfl⟩
  clear V
  go_wp2_with fail
  go_step3
  go_wp2_with fail
  go_loopw [9] (fun v wr => wr = w1 ∧ v = .int .i64 3) (fun _ _ => 0)
  case atStart => exact ⟨rfl, rfl⟩
  case round =>
    obtain ⟨rfl, rfl⟩ := hrel
    have i1 : ∀ w, (Instr.index 9 (.string ⟨#[32, 95, 45, 44, 59, 58, 33, 63, 46]⟩) (.int .i64 3)).run Tryz.prog w = .ok (.int .u8 44) w := fun _ => by kernel_rfl
    have i2 : ∀ w, (Instr.index 9 (.string ⟨#[a, b, c, z]⟩) (.int .i64 3)).run Tryz.prog w = .ok (.int .u8 z.toNat) w := fun _ => by kernel_rfl
    have i3 : ((44 : Int) != (z.toNat : Int)) = true := by simp; omega
    have i4 : ∀ w, (Instr.slice 9 (.string ⟨#[32, 95, 45, 44, 59, 58, 33, 63, 46]⟩) (some (.int .i64 (IntKind.i64.wrap 4))) none none).run Tryz.prog w = .ok (.string ((⟨#[32, 95, 45, 44, 59, 58, 33, 63, 46]⟩ : ByteArray).extract 4 9)) w := fun _ => by kernel_rfl
    have A := fun w => strByte_any ((⟨#[32, 95, 45, 44, 59, 58, 33, 63, 46]⟩ : ByteArray).extract 4 9) z.toNat w
    rw [vs_miss hz 4] at A
    generalize ((⟨#[32, 95, 45, 44, 59, 58, 33, 63, 46]⟩ : ByteArray).extract 4 9) = sx at *
    go_wp2_with fail
    go_step3
    go_wp2_with fail
    go_quiet (fail)
    go_wp2_with fail
    go_quiet ((go_at_call 108; exact (A _).mono fun e w' h => ⟨h.1, _, h.2⟩))
    go_wp2
    change bodyPost _ _ (fun e w' => e = Ending.returned (.int .i64 (-1)) ∧ Below wr.heap.size wr w') Exit.ret _ _
    go_ret
    exact ⟨rfl, below_drewN (Below.refl _ _) _⟩

theorem idxRune_any (r : Int) (h0 : 0 ≤ r) (h1 : r ≤ 1114111) (h2 : ¬ (55296 ≤ r ∧ r ≤ 57343)) (w : World) :
    Calls Tryz.prog 104 #[.string ⟨#[32, 95, 45, 44, 59, 58, 33, 63, 46]⟩, .int .i32 r] w fun e w' => e = .returned (.int .i64 (idxV r)) ∧ Below w.heap.size w w' := by
  by_cases c : r < 128
  · exact (idxRune_low r h0 c w).mono fun e w' h => ⟨h.1, by rw [h.2]; exact Below.refl _ _⟩
  · rw [idx_none (by omega)]
    by_cases d : r = 65533
    · subst d
      exact idxRune_bad w
    · rcases enc_cases r (by omega) h1 h2 with ⟨a, z, hE, hz⟩ | ⟨a, b, z, hE, hz⟩ | ⟨a, b, c, z, hE, hz⟩
      · exact idxRune_two r a z hE hz (by omega) h1 h2 d w
      · exact idxRune_three r a b z hE hz (by omega) h1 h2 d w
      · exact idxRune_four r a b c z hE hz (by omega) h1 h2 d w
end Go.Proofs.YtinjldagfhbioaaGreatDoor
