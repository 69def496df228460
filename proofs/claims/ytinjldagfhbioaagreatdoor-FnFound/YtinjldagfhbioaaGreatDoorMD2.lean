/- Texts of mine laid together: IClass, ISort, ISort2, IGoods, INorm, IFull, Equal2, IIs, IRule1, INorm2, ImplD, IApartT. -/
import Derived.Test.YtinjldagfhbioaaGreatDoorMD1
import Derived.Test.YtinjldagfhbioaaGreatDoorClass
import Derived.Deep.WholeRow
import Derived.Test.YtinjldagfhbioaaGreatDoorSort2
import Derived.Deep.RegionHeld
import Derived.Test.YtinjldagfhbioaaGreatDoorSD
import Derived.Test.YtinjldagfhbioaaGreatDoorSEl3
import Derived.Test.YtinjldagfhbioaaGreatDoorRead
import Derived.WalkKit
import Derived.Test.YtinjldagfhbioaaGreatDoorRn4
import Derived.Test.YtinjldagfhbioaaGreatDoorDGood
namespace Go.Proofs.YtinjldagfhbioaaGreatDoor
open Go.RowKit

def marksA : Array Value := (marksF.map (Value.int .i64)).toArray

theorem marks_index (k : Nat) (hk : k < 15) (w : World) : (Instr.index 120 (.agg marksA) (.int .i64 k)).run Tryz.prog w = .ok (.agg #[.int .i64 (at0 (marksT.getD k []) 0), .int .i64 (at0 (marksT.getD k []) 1)]) w := by
  iterate 15 (rcases k with _ | k; · kernel_rfl)
  omega

theorem marks_hit : ∀ t ∈ marksT, cls (at0 t 0) = at0 t 1 := by decide
theorem marks_none {r : Int} (h : ∀ t ∈ marksT, at0 t 0 ≠ r) : cls r = 0 := by
  simp [marksT, at0] at h
  unfold cls
  repeat' split
  all_goals omega

def NoMark (r : Int) (k : Nat) : Prop := ∀ j, j < k → at0 (marksT.getD j []) 0 ≠ r

set_option maxRecDepth 100000 in
set_option maxHeartbeats 2000000 in
theorem implClass_any (r : Int) (w : World) (hm : Held w 0 marksF) : Calls Tryz.prog 57 #[.int .i64 r] w fun e w' => e = .returned (.int .i64 (cls r)) ∧ Below w.heap.size w w' := by
  obtain ⟨t, fr, hh0⟩ := hm
  have hh : w.heap[0]? = some (.cells marksA t fr) := hh0
  clear hh0
  go_enter Tryz.func57, Tryz.ntmps57
  go_wp2_with (refine wpList_load_row rfl 120 (.global 0) rfl 0 rfl t marksA fr _ hh Tryz.underlying120 rfl (by kernel_rfl) ?_)
  clear hh
  go_loopw [6] (fun i wr => ∃ k : Nat, k ≤ 15 ∧ i = .int .i64 k ∧ Hid (NoMark r k) ∧ Below w.heap.size w wr) (fun i _ => 15 - (intOf i).toNat)
  case atStart => exact ⟨0, Nat.zero_le _, rfl, fun j hj => by omega, Below.refl _ _⟩
  case round =>
    obtain ⟨k, hk, rfl, HN, hb⟩ := hrel
    by_cases hlt : k < 15
    · have hi := fun w => marks_index k hlt w
      have ht : marksT.getD k [] ∈ marksT := by
        rw [List.getD_eq_getElem?_getD, List.getElem?_eq_getElem (show k < marksT.length from hlt)]; exact List.getElem_mem _
      have HH : Hid (cls (at0 (marksT.getD k []) 0) = at0 (marksT.getD k []) 1) := marks_hit _ ht
      have HK : Hid (at0 (marksT.getD k []) 0 ≠ r → NoMark r (k + 1)) := fun h j hj => by
        by_cases e : j = k
        · subst e; exact h
        · exact HN.out j (by omega)
      clear HN ht
      generalize at0 (marksT.getD k []) 0 = a at *
      generalize at0 (marksT.getD k []) 1 = b at *
      have hk8 : (k : Int) < 15 := by omega
      by_cases e : a = r
      · subst e
        go_wp2
        go_ret
        exact ⟨ret_i HH.out.symm, hb.alloc hb.size _⟩
      · have e2 : (a == r) = false := by simpa using e
        have HN2 : Hid (NoMark r (k + 1)) := HK.out e
        clear e HK
        go_wp2
        exact ⟨⟨k + 1, by omega, by go_num, HN2, hb.alloc hb.size _⟩, by simp [intOf]; omega⟩
    · have HC : Hid (cls r = 0) := marks_none fun t ht => by
        obtain ⟨j, hj⟩ := List.mem_iff_getElem?.1 ht
        have h1 := (List.getElem?_eq_some_iff.1 hj).1
        have h2 : marksT.length = 15 := rfl
        have := HN.out j (by omega)
        rw [List.getD_eq_getElem?_getD, hj] at this
        exact this
      clear HN
      go_wp2
      go_ret
      exact ⟨ret_i HC.out.symm, hb⟩
end Go.Proofs.YtinjldagfhbioaaGreatDoor

namespace Go.Proofs.YtinjldagfhbioaaGreatDoor
open Go.RowKit

/-- A row of integers of the call's own, its block and its capacity told. -/
def Own (w : World) (B g cap n : Nat) (l : List Int) : Prop := w.ownsRow B 3 1 (.slice (some ⟨g, 0, none⟩) n cap) n (l.map (Value.int .i64))

theorem Own.len {w : World} {B g cap n : Nat} {l : List Int} (h : Own w B g cap n l) : l.length = n := by simpa using h.1

theorem Own.cell {w : World} {B g cap n : Nat} {l : List Int} (h : Own w B g cap n l) (j : Nat) (hj : j < n) : w.cell? ⟨g, j, none⟩ = some (.int .i64 (at0 l j)) := by
  have h1 := World.ownsRow.cellAt h j (by omega)
  rw [h1]
  have := h.len
  simp [at0, show j < l.length by omega]

theorem below_grownBy {w w' : World} (hb : Below w.heap.size w w') (row : Option Nat) : w.grownBy w' row := ⟨hb.os, hb.tape, hb.output, hb.size, fun k hk _ => hb.block k hk⟩

theorem grown_refl (w : World) (row : Option Nat) : w.grownBy w row := ⟨rfl, rfl, rfl, Nat.le_refl _, fun _ _ _ => rfl⟩

theorem Own.below {w w' : World} {B g cap n : Nat} {l : List Int} (h : Own w B g cap n l) (hb : Below w.heap.size w w') : Own w' B g cap n l :=
  World.ownsRow.kept h (row := none) (below_grownBy hb none) (by cases hx : (Value.slice (some ⟨g, 0, none⟩) n cap).ownBlock <;> simp)

theorem held_grown {w w' : World} {g h : Nat} {zs : List Int} (hh : Held w h zs) (hg : w.grownBy w' (some g)) (hne : h ≠ g) : Held w' h zs := by
  obtain ⟨t, fr, e⟩ := hh
  refine ⟨t, fr, ?_⟩
  rw [hg.block h ((Array.getElem?_eq_some_iff.1 e).1) (fun e => hne (Option.some.inj e))]
  exact e

/-- What stands in every world of a round's test. -/
def SH (w : World) (B g cap n : Nat) (l : List Int) (w' : World) : Prop := Own w' B g cap n l ∧ w.grownBy w' (some g) ∧ Held w' 0 marksF

theorem SH.below {w w1 w2 : World} {B g cap n : Nat} {l : List Int} (hb : Below w1.heap.size w1 w2) (h : SH w B g cap n l w1) : SH w B g cap n l w2 :=
  ⟨h.1.below hb, h.2.1.trans (below_grownBy hb _), h.2.2.below hb h.2.2.lt⟩
theorem SH.drew {w w1 : World} {B g cap n : Nat} {l : List Int} (h : SH w B g cap n l w1) : SH w B g cap n l w1.drew := h.below ((Below.refl _ _).drew)

theorem SH.cell {w w1 : World} {B g cap n : Nat} {l : List Int} (h : SH w B g cap n l w1) (j : Nat) (hj : j < n) : w1.cell? ⟨g, j, none⟩ = some (.int .i64 (at0 l j)) := h.1.cell j hj

theorem keepS {w w1 w2 : World} {B g cap n i j : Nat} {l : List Int} (hi : i < n) (hj : j < n) (hb : Below w1.heap.size w1 w2) (h : w1.cell? ⟨g, i, none⟩ = some (.int .i64 (at0 l i)) ∧ w1.cell? ⟨g, j, none⟩ = some (.int .i64 (at0 l j)) ∧ SH w B g cap n l w1) :
    w2.cell? ⟨g, i, none⟩ = some (.int .i64 (at0 l i)) ∧ w2.cell? ⟨g, j, none⟩ = some (.int .i64 (at0 l j)) ∧ SH w B g cap n l w2 :=
  ⟨(h.2.2.below hb).cell i hi, (h.2.2.below hb).cell j hj, h.2.2.below hb⟩

theorem sh_swap {w w1 : World} {B g cap n : Nat} {l : List Int} (hB : 0 < B) (h : SH w B g cap n l w1) (i j : Nat) :
    SH w B g cap n ((l.set i (at0 l j)).set j (at0 l i)) ((w1.setCell ⟨g, i, none⟩ (.int .i64 (at0 l j))).setCell ⟨g, j, none⟩ (.int .i64 (at0 l i))) := by
  have h1 := World.ownsRow.stored h.1 i (.int .i64 (at0 l j))
  have h2 := World.ownsRow.stored h1.1 j (.int .i64 (at0 l i))
  have e3 : ((l.map (Value.int .i64)).set i (.int .i64 (at0 l j))).set j (.int .i64 (at0 l i)) = ((l.set i (at0 l j)).set j (at0 l i)).map (Value.int .i64) := by simp [List.map_set]
  have h3 := h2.1
  rw [e3] at h3
  have hg := h1.2.trans h2.2
  have hne : 0 ≠ g := fun e => by
    have := (World.ownsRow.lt h.1 g rfl).1
    omega
  exact ⟨h3, h.2.1.trans hg, held_grown h.2.2 hg hne⟩

def SOut (w : World) (B g cap n f m : Nat) (l : List Int) (i : Value) (wr : World) : Prop := ∃ k : Nat, k ≤ m ∧ i = .int .i64 k ∧ SH w B g cap n (srtX f l k) wr
def SIn (w : World) (B g cap n f m : Nat) (goal : List Int) (i : Value) (wr : World) : Prop := ∃ (j : Nat) (l : List Int), j < m ∧ i = .int .i64 j ∧ SH w B g cap n l wr ∧ bubX f l j = goal

set_option maxRecDepth 100000 in
set_option maxHeartbeats 4000000 in
theorem sortBy_any (w : World) (B g cap n f m c : Nat) (l : List Int) (hown : Own w B g cap n l) (hB : 0 < B) (hf : f + m ≤ n) (hn : n ≤ 1048576) (hm : Held w 0 marksF) :
    Calls Tryz.prog 102 #[.slice (some ⟨g, f, none⟩) m c, .func (.func 57) #[] #[]] w fun e w' => e = .returned (.tuple #[]) ∧ SH w B g cap n (srtX f l m) w' := by
  go_enter Tryz.func102, Tryz.ntmps102
  go_wp2
  go_loopw [8] (fun i wr => SOut w B g cap n f m l i wr) (fun i _ => m - (intOf i).toNat)
  case atStart => exact ⟨0, Nat.zero_le _, rfl, hown, grown_refl _ _, hm⟩
  case round =>
    clear hown hm
    obtain ⟨k, hk, rfl, hsh⟩ := hrel
    by_cases hlt : k < m
    · go_wp2_with fail
      go_loopw [5] (fun i wr => SIn w B g cap n f m (srtX f l (k + 1)) i wr) (fun i _ => (intOf i).toNat)
      case atStart => exact ⟨k, srtX f l k, hlt, rfl, hsh, rfl⟩
      case round =>
        clear hsh
        obtain ⟨j, l1, hj, rfl, hsh, hgoal⟩ := hrel
        have HG : Hid _ := hgoal
        clear hgoal
        cases j with
        | zero =>
          go_wp2
          go_quiet (fail)
          go_wp2
          have he : l1 = srtX f l (k + 1) := HG.out
          subst he
          exact ⟨⟨k + 1, by omega, by go_num, hsh.below (below_drewN (Below.refl _ _) _)⟩, by simp [intOf]; omega⟩
        | succ p =>
          have hp1 : f + p < n := by omega
          have hp2 : f + (p + 1) < n := by omega
          have hq3 : p < m := by omega
          have hw1 : IntKind.i64.wrap ((p : Int) + 1 - 1) = (p : Int) := by rw [IntKind.wrap_i64]; omega
          have hw2 : IntKind.i64.wrap (((p + 1 : Nat) : Int) - 1) = (p : Int) := by rw [IntKind.wrap_i64]; omega
          have hw3 : IntKind.i64.wrap (p : Int) = (p : Int) := by rw [IntKind.wrap_i64]; omega
          have hq1 : (p : Int) < (m : Int) := by omega
          have hq2 : (p : Int) + 1 < (m : Int) := by omega
          have hS : wr.cell? ⟨g, f + p, none⟩ = some (.int .i64 (at0 l1 (f + p))) ∧ wr.cell? ⟨g, f + (p + 1), none⟩ = some (.int .i64 (at0 l1 (f + (p + 1)))) ∧ SH w B g cap n l1 wr := ⟨hsh.cell _ hp1, hsh.cell _ hp2, hsh⟩
          have hS2 := keepS hp1 hp2 ((Below.refl wr.heap.size wr).drew) hS
          go_wp2_with fail
          go_region_held (fun w' => w'.cell? ⟨g, f + p, none⟩ = some (.int .i64 (at0 l1 (f + p))) ∧ w'.cell? ⟨g, f + (p + 1), none⟩ = some (.int .i64 (at0 l1 (f + (p + 1)))) ∧ SH w B g cap n l1 w')
            (first | exact hS2 | exact keepS hp1 hp2 (by assumption) (by assumption) | exact keepS hp1 hp2 (by assumption) ⟨by assumption, by assumption, by assumption⟩)
            (first | (go_at_call 57; refine (implClass_any _ _ ?_).mono ?_; (first | exact (show SH w B g cap n l1 _ by assumption).2.2 | exact (show _ ∧ _ ∧ SH w B g cap n l1 _ by assumption).2.2.2.2); rintro e w' ⟨rfl, hbw⟩))
          all_goals
            have hE : SH w B g cap n l1 w' := (show w'.cell? ⟨g, f + p, none⟩ = _ ∧ _ ∧ SH w B g cap n l1 w' by assumption).2.2
            clear hS hS2 hsh
            by_cases cc : cls (at0 l1 (f + (p + 1))) < cls (at0 l1 (f + p))
            · have HG2 : Hid (bubX f ((l1.set (f + p) (at0 l1 (f + (p + 1)))).set (f + (p + 1)) (at0 l1 (f + p))) p = srtX f l (k + 1)) := (bubX_go f l1 p cc).symm.trans HG.out
              have HW := sh_swap hB hE (f + p) (f + (p + 1))
              have e1 := hE.cell _ hp1
              have e2 := hE.cell _ hp2
              have f1 := World.ownsRow.frozenAt hE.1 (f + p)
              have f2 := World.ownsRow.frozenAt hE.1 (f + (p + 1))
              clear HG hE
              go_wp2_with fail
              go_region
              all_goals go_wp2
              all_goals exact ⟨⟨p, _, by omega, rfl, SH.drew HW, HG2.out⟩, by simp [intOf]⟩
            · have he : l1 = srtX f l (k + 1) := (bubX_stop f l1 p cc).symm.trans HG.out
              clear HG
              go_wp2
              subst he
              exact ⟨⟨k + 1, by omega, by go_num, hE⟩, by simp [intOf]; omega⟩
    · have hkm : k = m := by omega
      subst hkm
      go_wp2
      go_end0
      exact ⟨rfl, hsh⟩

theorem SH.from {w w1 w2 : World} {B g cap n : Nat} {l l' : List Int} (h : SH w B g cap n l w1) (k : SH w1 B g cap n l' w2) : SH w B g cap n l' w2 := ⟨k.1, h.2.1.trans k.2.1, k.2.2⟩

set_option maxRecDepth 100000 in
set_option maxHeartbeats 1000000 in
theorem sortBy_none (w : World) (a : Option Addr) (c : Nat) : Calls Tryz.prog 102 #[.slice a 0 c, .func (.func 57) #[] #[]] w fun e w' => e = .returned (.tuple #[]) ∧ w' = w := by
  go_enter Tryz.func102, Tryz.ntmps102
  go_wp2
  go_loop [8] (fun i => i = .int .i64 0) (fun _ => 0)
  case atStart => rfl
  case round =>
    subst hrel
    go_wp2
    go_end0
    exact ⟨rfl, rfl⟩

set_option maxRecDepth 100000 in
set_option maxHeartbeats 1000000 in
theorem sortRuns_nil (w : World) : Calls Tryz.prog 92 #[.slice none 0 0] w fun e w' => e = .returned (.tuple #[]) ∧ w' = w := by
  have SB := fun w a c => sortBy_none w a c
  go_enter Tryz.func92, Tryz.ntmps92
  go_wp2
  go_loop [2, 7] (fun f i => f = .int .i64 0 ∧ i = .int .i64 0) (fun _ _ => 0)
  case atStart => exact ⟨rfl, rfl⟩
  case round =>
    obtain ⟨rfl, rfl⟩ := hrel
    go_wp2_with (go_at_call 102; refine (SB _ _ _).mono ?_; rintro e w1 ⟨rfl, rfl⟩)
    go_end0
    exact ⟨rfl, rfl⟩
end Go.Proofs.YtinjldagfhbioaaGreatDoor

namespace Go.Proofs.YtinjldagfhbioaaGreatDoor
open Go.RowKit

def RRel (w : World) (B g cap n : Nat) (zs : List Int) (fv i : Value) (wr : World) : Prop :=
  ∃ f a : Nat, f ≤ a ∧ a ≤ n ∧ fv = .int .i64 f ∧ i = .int .i64 a ∧ SH w B g cap n (srt zs f) wr ∧ (∀ j, f ≤ j → j < a → 0 < cls (at0 zs j)) ∧ (f = 0 ∨ cls (at0 (srt zs f) (f - 1)) = 0)

set_option maxRecDepth 100000 in
set_option maxHeartbeats 4000000 in
theorem sortRuns_any (w : World) (B g cap n : Nat) (zs : List Int) (hown : Own w B g cap n zs) (hB : 0 < B) (hn : n ≤ 1048576) (hm : Held w 0 marksF) :
    Calls Tryz.prog 92 #[.slice (some ⟨g, 0, none⟩) n cap] w fun e w' => e = .returned (.tuple #[]) ∧ SH w B g cap n (sortM zs) w' := by
  have hlen : zs.length = n := hown.len
  have hcap : n ≤ cap ∧ cap ≤ maxLen := by
    rcases hown.2 with ⟨h, _⟩ | ⟨g', cap', cur, h, _, _, h2, h3, _⟩
    · cases h
    · injection h with _ _ h4; subst h4; exact ⟨h2, h3⟩
  obtain ⟨hc1, hc2⟩ := hcap
  unfold maxLen at hc2
  go_enter Tryz.func92, Tryz.ntmps92
  go_wp2
  go_loopw [2, 7] (fun fv i wr => RRel w B g cap n zs fv i wr) (fun _ i _ => n - (intOf i).toNat)
  case atStart => exact ⟨0, 0, Nat.le_refl _, Nat.zero_le _, rfl, rfl, ⟨hown, grown_refl _ _, hm⟩, fun j _ hj => by omega, .inl rfl⟩
  case round =>
    clear hown hm
    obtain ⟨f, a, hfa, han, rfl, rfl, hsh, HM0, HP0⟩ := hrel
    have HM : Hid _ := HM0
    have HP : Hid (f = 0 ∨ cls (at0 (srt zs f) (f - 1)) = 0) := HP0
    clear HM0 HP0
    by_cases hlt : a < n
    · have c0 := hsh.cell a hlt
      rw [srt_above zs f a hfa] at c0
      have CC := implClass_any (at0 zs a) wr hsh.2.2
      generalize hx : at0 zs a = x at *
      have ha8 : (a : Int) < (n : Int) := by omega
      go_wp2_with fail
      refine CC.mono ?_
      rintro e w1 ⟨rfl, hb1⟩
      have hs1 := hsh.below hb1
      clear CC c0
      by_cases e : cls x = 0
      · have e' : (cls x == 0) = true := by simpa using e
        have SB := sortBy_any w1 B g cap n f (a - f) (cap - f) (srt zs f) hs1.1 hB (by omega) hn hs1.2.2
        have hf8 : (f : Int) ≤ (a : Int) := by omega
        have ha9 : (a : Int) ≤ (cap : Int) := by omega
        have HS := srtX_srt (f := f) (a - f) zs (by omega) HP.out (fun j h1 h2 => HM.out j h1 (by omega))
        rw [show f + (a - f) = a by omega] at HS
        have HN : Hid (srtX f (srt zs f) (a - f) = srt zs (a + 1)) := by
          show _ = _
          rw [HS.1, srt_starter zs a (by rw [hx]; exact e)]
        have HQ : Hid (a + 1 = 0 ∨ cls (at0 (srt zs (a + 1)) (a + 1 - 1)) = 0) := by
          refine .inr ?_
          rw [srt_starter zs a (by rw [hx]; exact e), Nat.add_sub_cancel, srt_above zs a a (Nat.le_refl _), hx]; exact e
        clear hsh HS HM HP e hx
        go_wp2_with fail
        refine SB.mono ?_
        rintro e w2 ⟨rfl, hs2⟩
        rw [HN.out] at hs2
        have hs3 := hs1.from hs2
        clear SB HN hs1 hs2 hb1
        go_wp2
        exact ⟨⟨a + 1, a + 1, Nat.le_refl _, by omega, by go_num, by go_num, hs3, fun j h1 h2 => by omega, HQ.out⟩, by simp [intOf]; omega⟩
      · have e' : (cls x == 0) = false := by simpa using e
        have HM2 : Hid (∀ j, f ≤ j → j < a + 1 → 0 < cls (at0 zs j)) := fun j h1 h2 => by
          by_cases ej : j = a
          · subst ej; rw [hx]; have := (cls_range x).1; omega
          · exact HM.out j h1 (by omega)
        clear hsh HM e hx hb1
        go_wp2
        exact ⟨⟨f, a + 1, by omega, by omega, by go_num, by go_num, hs1, HM2.out, HP.out⟩, by simp [intOf]; omega⟩
    · have han2 : a = n := by omega
      subst han2
      have SB := sortBy_any wr B g cap a f (a - f) (cap - f) (srt zs f) hsh.1 hB (by omega) hn hsh.2.2
      have HS := srtX_srt (f := f) (a - f) zs (by omega) HP.out (fun j h1 h2 => HM.out j h1 (by omega))
      rw [show f + (a - f) = a by omega] at HS
      have HN : Hid (srtX f (srt zs f) (a - f) = sortM zs) := by
        show _ = _
        rw [HS.1, sortM, hlen]
      have hf8 : (f : Int) ≤ (a : Int) := by omega
      by_cases hcf : cap = f
      · have haf : a = f := by omega
        have HE : Hid (srt zs f = sortM zs) := by
          show _ = _
          rw [sortM, hlen, haf]
        clear HS HM HP SB HN
        subst haf
        subst hcf
        have SB0 := sortBy_none wr (some ⟨g, 0, none⟩) 0
        go_wp2_with fail
        refine SB0.mono ?_
        rintro e w2 ⟨rfl, rfl⟩
        rw [HE.out] at hsh
        clear SB0 HE
        go_wp2
        go_end0
        exact ⟨rfl, hsh⟩
      · clear HS HM HP
        go_wp2_with fail
        refine SB.mono ?_
        rintro e w2 ⟨rfl, hs2⟩
        rw [HN.out] at hs2
        have hs3 := hsh.from hs2
        clear SB HN hsh hs2
        go_wp2
        go_end0
        exact ⟨rfl, hs3⟩
end Go.Proofs.YtinjldagfhbioaaGreatDoor

namespace Go.Proofs.YtinjldagfhbioaaGreatDoor
open Go.RowKit

theorem okR_long {zs : List Int} (h : 200 < zs.length) : okR zs = false := decide_eq_false fun c => by omega
theorem okR_bad {zs : List Int} {x : Int} (hx : x ∈ zs) (h : goodB x = false) : okR zs = false := decide_eq_false fun c => by
  have := c.2 x hx
  rw [h] at this; cases this

set_option maxRecDepth 100000 in
set_option maxHeartbeats 1000000 in
theorem goods_none (w : World) (a : Option Addr) (c : Nat) : Calls Tryz.prog 90 #[.slice a 0 c] w fun e w' => e = .returned (.bool true) ∧ w' = w := by
  go_enter Tryz.func90, Tryz.ntmps90
  go_wp2
  go_loop [10] (fun i => i = .int .i64 0) (fun _ => 0)
  case atStart => rfl
  case round =>
    subst hrel
    go_wp2
    go_ret
    exact ⟨rfl, rfl⟩

set_option maxRecDepth 100000 in
set_option maxHeartbeats 1000000 in
theorem goods_long (w : World) (a : Option Addr) (n c : Nat) (h : 200 < n) : Calls Tryz.prog 90 #[.slice a n c] w fun e w' => e = .returned (.bool false) ∧ w' = w := by
  have h2 : (200 : Int) < (n : Int) := by omega
  go_enter Tryz.func90, Tryz.ntmps90
  go_wp2
  go_ret
  exact ⟨rfl, rfl⟩

set_option maxRecDepth 100000 in
set_option maxHeartbeats 1000000 in
theorem goods_row (w : World) (g cap : Nat) (zs : List Int) (hz : zs.length ≤ 200)
    (hc : ∀ j, j < zs.length → w.cell? ⟨g, j, none⟩ = some (.int .i64 (zs[j]?.getD 0))) :
    Calls Tryz.prog 90 #[.slice (some ⟨g, 0, none⟩) zs.length cap] w fun e w' => e = .returned (.bool (okR zs)) ∧ w' = w := by
  have hz2 : ¬ (200 : Int) < (zs.length : Int) := by omega
  go_enter Tryz.func90, Tryz.ntmps90
  go_wp2
  go_loop [10] (fun i => ∃ k : Nat, k ≤ zs.length ∧ i = .int .i64 k ∧ Hid (UpTo zs k)) (fun i => zs.length - (intOf i).toNat)
  case atStart => exact ⟨0, Nat.zero_le _, rfl, fun j x hj => by omega⟩
  case round =>
    obtain ⟨k, hk, rfl, HG⟩ := hrel
    by_cases hlt : k < zs.length
    · obtain ⟨x, hx⟩ : ∃ x, zs[k]? = some x := ⟨_, List.getElem?_eq_getElem hlt⟩
      have c0 := hc k hlt
      rw [hx] at c0
      have c1 : w.cell? ⟨g, k, none⟩ = some (.int .i64 x) := c0
      cases hgx : goodB x
      · have P := fun w => implGood_no x hgx w
        have HN : Hid (false = okR zs) := (okR_bad (List.mem_of_getElem? hx) hgx).symm
        clear hc c0 hx hgx
        go_wp2_with (go_at_call 100; refine (P _).mono ?_; rintro e w1 ⟨rfl, rfl⟩)
        go_ret
        exact ⟨ret_b HN.out, rfl⟩
      · have P := fun w => implGood_yes x hgx w
        have HG2 : Hid (UpTo zs (k + 1)) := HG.out.succ hx hgx
        clear hc c0 hx hgx
        go_wp2_with (go_at_call 100; refine (P _).mono ?_; rintro e w1 ⟨rfl, rfl⟩)
        exact ⟨⟨k + 1, by omega, by go_num, HG2⟩, by simp [intOf]; omega⟩
    · have HA := HG.out.all hlt
      have HY : Hid (true = okR zs) := (decide_eq_true (⟨hz, HA⟩ : zs.length ≤ 200 ∧ ∀ x ∈ zs, goodB x = true)).symm
      clear hc HA
      go_wp2
      go_ret
      exact ⟨ret_b HY.out, rfl⟩

theorem goods_any {w : World} {B : Nat} {v : Value} {zs : List Int} (hI : Ints w B v zs) :
    Calls Tryz.prog 90 #[v] w fun e w' => e = .returned (.bool (okR zs)) ∧ w' = w := by
  rcases hI.form with ⟨rfl, rfl⟩ | ⟨g, cap, rfl, h1, h2⟩
  · have : okR [] = true := decide_eq_true ⟨by simp, by simp⟩
    rw [this]
    exact goods_none w _ _
  · by_cases h : zs.length ≤ 200
    · exact goods_row w g cap zs h (fun j hj => hI.cell j hj)
    · rw [okR_long (by omega)]
      exact goods_long w _ _ _ (by omega)

end Go.Proofs.YtinjldagfhbioaaGreatDoor

namespace Go.Proofs.YtinjldagfhbioaaGreatDoor
open Go.RowKit

theorem grown_trans2 {w wr w2 : World} {row row2 : Option Nat} (h : w.grownBy wr row) (h2 : wr.grownBy w2 row2) (hr : row2 = row ∨ ∀ g, row2 = some g → w.heap.size ≤ g) : w.grownBy w2 row := by
  refine ⟨h2.os.trans h.os, h2.tape.trans h.tape, h2.output.trans h.output, Nat.le_trans h.size h2.size, fun k hk hne => ?_⟩
  rw [h2.block k (Nat.lt_of_lt_of_le hk h.size) ?_]
  · exact h.block k hk hne
  · rcases hr with rfl | hr
    · exact hne
    · intro e
      have := hr k e.symm
      omega

theorem held_grown2 {w w' : World} {h : Nat} {row : Option Nat} {zs : List Int} (hh : Held w h zs) (hg : w.grownBy w' row) (hne : row ≠ some h) : Held w' h zs := by
  obtain ⟨t, fr, e⟩ := hh
  refine ⟨t, fr, ?_⟩
  rw [hg.block h ((Array.getElem?_eq_some_iff.1 e).1) (fun c => hne c.symm)]
  exact e

/-- The list put behind l: only l's own block may have turned, and what comes back lies there or in a new one. -/
def ApPost (w : World) (B : Nat) (l : Value) (acc : List Int) (v : Value) (w' : World) : Prop := Ints w' B v acc ∧ w.grownBy w' l.ownBlock ∧ (v.ownBlock = l.ownBlock ∨ ∀ g, v.ownBlock = some g → w.heap.size ≤ g)

def Tabs (w : World) : Prop := Held w 1 capF ∧ Held w 2 othF

theorem Tabs.below {w w' : World} (h : Tabs w) (hb : Below w.heap.size w w') : Tabs w' := ⟨h.1.below hb h.1.lt, h.2.below hb h.2.lt⟩

theorem own_ne {w : World} {B h : Nat} {l : Value} {acc : List Int} (hI : Ints w B l acc) (hB : h < B) : l.ownBlock ≠ some h := fun e => by
  have := (World.ownsRow.lt hI h e).1
  omega

set_option maxRecDepth 100000 in
set_option maxHeartbeats 2000000 in
theorem app_leaf (n : Nat) (r : Int) (w : World) (B : Nat) (l : Value) (acc : List Int) (h : apart r = [r]) (hg : goodB r = true) (hI : Ints w B l acc) (ha : acc.length ≤ 4000) (hB : B ≤ w.heap.size) (ht : Tabs w) :
    Calls Tryz.prog 91 #[l, .int .i64 r] w fun e w' => ∃ v, e = .returned v ∧ ApPost w B l (acc ++ full n r) v w' := by
  obtain ⟨i0, hi, hzz, hz1, hz2⟩ := info_parts info_int
  have A := implApart_any r w ht.1 ht.2
  rw [show apartG r = [r] by unfold apartG; rw [if_pos hg, h]] at A
  rw [full_leaf h]
  clear h hg ht
  go_enter Tryz.func91, Tryz.ntmps91
  go_wp2_with fail
  refine A.mono ?_
  rintro e w1 ⟨v, rfl, hIp, hb⟩
  obtain ⟨g, cap, rfl⟩ := ints_some hIp (by simp)
  have c0 := ints_at0 hIp 0 r rfl
  simp only [List.length_cons, List.length_nil] at hIp
  have hI1 := hI.below hb
  have hown0 : w1.ownsRow B 3 1 l acc.length (acc.map (Value.int .i64)) := hI1
  have hsz := hb.size
  clear A
  go_wp2_with (at_builtin; refine wpList_append_lies _ rfl _ _ 35 rfl B 3 i0 (.int .i64 0) 1 8 Tryz.underlying35 hi hzz hz1 hz2 rfl (by decide) _ _ _ rfl (hown0.alloc _) ⟨_, 0, none⟩ 1 1 [.int .i64 r] rfl rfl (cell_one_new _ _ _) (fun x hx => by simp at hx; subst hx; rfl) (by omega) (by unfold maxLen; omega) (by omega) (by simp; omega) (w1.heap.size + 1) (by simp) ?_; intro g' cap' w2 hown hgr hgg hlt')
  go_ret
  refine ⟨_, rfl, Ints.snoc hown, ?_, ?_⟩
  · exact (below_grownBy (hb.alloc hb.size _) _).trans hgr
  · rcases hgg with e | e
    · exact .inl e.symm
    · refine .inr fun k hk => ?_
      have : g' = k := Option.some.inj hk
      omega

def ARel (w : World) (B : Nat) (l : Value) (acc : List Int) (gp cp : Nat) (f : Int → List Int) (ls : List Int) (lv i : Value) (wr : World) : Prop :=
  ∃ k : Nat, k ≤ ls.length ∧ i = .int .i64 k ∧ ApPost w B l (acc ++ (ls.take k).flatMap f) lv wr ∧ Ints wr w.heap.size (.slice (some ⟨gp, 0, none⟩) ls.length cp) ls ∧ lv.ownBlock ≠ some gp ∧ Tabs wr ∧ w.heap.size ≤ wr.heap.size

theorem arel_step {w wr w2 : World} {B k gp cp : Nat} {l lv v : Value} {acc ls : List Int} {f : Int → List Int} {x : Int} (hk : k < ls.length) (hx : ls[k]? = some x) (hB1 : 1 < B) (hB2 : 2 < B)
    (hp : ApPost w B l (acc ++ (ls.take k).flatMap f) lv wr) (hI : Ints wr w.heap.size (.slice (some ⟨gp, 0, none⟩) ls.length cp) ls) (hne : lv.ownBlock ≠ some gp) (ht : Tabs wr) (hsz : w.heap.size ≤ wr.heap.size)
    (h2 : ApPost wr B lv (acc ++ (ls.take k).flatMap f ++ f x) v w2) : ARel w B l acc gp cp f ls v (.int .i64 ((k : Int) + 1)) w2 := by
  obtain ⟨i1, g1, n1⟩ := hp
  obtain ⟨i2, g2, n2⟩ := h2
  have hrow : lv.ownBlock = l.ownBlock ∨ ∀ g, lv.ownBlock = some g → w.heap.size ≤ g := n1
  have hgp : gp < wr.heap.size := (World.ownsRow.lt hI gp rfl).2
  refine ⟨k + 1, hk, by go_num, ⟨?_, grown_trans2 g1 g2 hrow, ?_⟩, World.ownsRow.kept hI g2 (.inr fun e => hne e.symm), ?_, ⟨held_grown2 ht.1 g2 (own_ne i1 hB1), held_grown2 ht.2 g2 (own_ne i1 hB2)⟩, Nat.le_trans hsz g2.size⟩
  · rw [take_flat hx, ← List.append_assoc]; exact i2
  · rcases n2 with e | e
    · rcases n1 with e1 | e1
      · exact .inl (e.trans e1)
      · exact .inr fun g hg => e1 g (e ▸ hg)
    · exact .inr fun g hg => Nat.le_trans hsz (e g hg)
  · rcases n2 with e | e
    · rw [e]; exact hne
    · intro h
      have := e gp h
      omega

set_option maxRecDepth 100000 in
set_option maxHeartbeats 2000000 in
theorem app_n (n : Nat) (hn2 : n ≤ 2) : ∀ (r : Int) (w : World) (B : Nat) (l : Value) (acc : List Int), levB n r = true → goodB r = true → Ints w B l acc → acc.length + 3 ^ n ≤ 4000 → B ≤ w.heap.size → 1 < B → 2 < B → Tabs w →
    Calls Tryz.prog 91 #[l, .int .i64 r] w fun e w' => ∃ v, e = .returned v ∧ ApPost w B l (acc ++ full n r) v w' := by
  induction n with
  | zero => exact fun r w B l acc h hg hI ha hB _ _ ht => app_leaf 0 r w B l acc (levB_zero h) hg hI (Nat.le_trans (Nat.le_add_right _ _) ha) hB ht
  | succ n ih0 =>
    intro r w B l acc hlev hg hI ha hB hB1 hB2 ht
    have ih := ih0 (by omega)
    by_cases hl : apart r = [r]
    · exact app_leaf _ r w B l acc hl hg hI (Nat.le_trans (Nat.le_add_right _ _) ha) hB ht
    · have hlv := (levB_succ hlev).resolve_left hl
      have hgs := apart_good hg
      have A := implApart_any r w ht.1 ht.2
      rw [show apartG r = apart r by unfold apartG; rw [if_pos hg]] at A
      have hal := apart_len r
      have hf := full_go (n := n) hl
      have h3 : 3 ^ (n + 1) = 3 * 3 ^ n := by rw [Nat.pow_succ]; omega
      have HB : Hid (∀ k, k < (apart r).length → (acc ++ ((apart r).take k).flatMap (full n)).length + 3 ^ n ≤ 4000) := fun k hk => by
        have h1 := flatMap_len (full n) (3 ^ n) ((apart r).take k) (full_len n)
        have h2 : ((apart r).take k).length * 3 ^ n ≤ 2 * 3 ^ n := Nat.mul_le_mul_right _ (by simp; omega)
        rw [List.length_append]
        omega
      have IH : Hid (∀ x ∈ apart r, ∀ (w : World) (l : Value) (acc : List Int), Ints w B l acc → acc.length + 3 ^ n ≤ 4000 → B ≤ w.heap.size → Tabs w → Calls Tryz.prog 91 #[l, .int .i64 x] w fun e w' => ∃ v, e = .returned v ∧ ApPost w B l (acc ++ full n x) v w') :=
        fun x hx w l acc h1 h2 h3 h4 => ih x w B l acc (hlv x hx) (hgs x hx) h1 h2 h3 hB1 hB2 h4
      have HF : Hid _ := hf
      clear ih ih0 hlev hlv hgs hg hf h3 ha
      generalize apart r = ls at *
      obtain ⟨hal1, hal2⟩ := hal
      by_cases h1 : ls.length = 1
      · obtain ⟨y, hy⟩ : ∃ y, ls[0]? = some y := ⟨_, List.getElem?_eq_getElem (by omega)⟩
        have hyr : (y == r) = false := by
          simp only [beq_eq_false_iff_ne, ne_eq]
          intro e
          subst e
          apply hl
          match ls, h1, hy with
          | [z], _, hy => simp at hy; rw [hy]
        have h1' : ((ls.length : Int) == 1) = true := by simp; omega
        have h1'' : (0 : Int) < (ls.length : Int) := by omega
        clear hl
        go_enter Tryz.func91, Tryz.ntmps91
        go_wp2_with fail
        refine A.mono ?_
        rintro e w1 ⟨v, rfl, hIp, hb⟩
        obtain ⟨g, cap, rfl⟩ := ints_some hIp (by omega)
        have c0 := ints_at0 hIp 0 y hy
        clear A hy h1
        have hin : ARel w B l acc g cap (full n) ls l (.int .i64 0) w1 := ⟨0, Nat.zero_le _, rfl, ⟨by simpa using hI.below hb, below_grownBy hb _, .inl rfl⟩, hIp, fun e => by
          have h5 := (World.ownsRow.lt hI g e).2
          have h6 := (World.ownsRow.lt hIp g rfl).1
          omega, ht.below hb, hb.size⟩
        go_wp2_with fail
        go_loopw [0, 26] (fun lv i wr => ARel w B l acc g cap (full n) ls lv i wr) (fun _ i _ => ls.length - (intOf i).toNat)
        case atStart => exact hin
        case round =>
          clear hin hIp
          obtain ⟨k, hk, rfl, hp, hIr, hne, htr, hszr⟩ := hrel
          by_cases hlt : k < ls.length
          · obtain ⟨x, hx⟩ : ∃ x, ls[k]? = some x := ⟨_, List.getElem?_eq_getElem hlt⟩
            have c1 := ints_at0 hIr k x hx
            have CA := IH.out x (List.mem_of_getElem? hx) wr _ _ hp.1 (HB.out k hlt) (Nat.le_trans hB hszr) htr
            have HX : Hid _ := hx
            clear hx
            go_wp2_with fail
            refine CA.mono ?_
            rintro e w2 ⟨v2, rfl, h2⟩
            have HA : Hid _ := arel_step hlt HX.out hB1 hB2 hp hIr hne htr hszr h2
            clear CA c1 h2 hp hIr
            go_wp2
            exact ⟨HA.out, by simp [intOf]; omega⟩
          · have hk3 : k = ls.length := by omega
            subst hk3
            rw [List.take_length] at hp
            go_wp2
            go_ret
            rw [HF.out]
            exact ⟨_, rfl, hp⟩
      · have h1' : ((ls.length : Int) == 1) = false := by simp; omega
        clear hl h1
        go_enter Tryz.func91, Tryz.ntmps91
        go_wp2_with fail
        refine A.mono ?_
        rintro e w1 ⟨v, rfl, hIp, hb⟩
        obtain ⟨g, cap, rfl⟩ := ints_some hIp (by omega)
        clear A
        have hin : ARel w B l acc g cap (full n) ls l (.int .i64 0) w1 := ⟨0, Nat.zero_le _, rfl, ⟨by simpa using hI.below hb, below_grownBy hb _, .inl rfl⟩, hIp, fun e => by
          have h5 := (World.ownsRow.lt hI g e).2
          have h6 := (World.ownsRow.lt hIp g rfl).1
          omega, ht.below hb, hb.size⟩
        go_wp2_with fail
        go_loopw [0, 26] (fun lv i wr => ARel w B l acc g cap (full n) ls lv i wr) (fun _ i _ => ls.length - (intOf i).toNat)
        case atStart => exact hin
        case round =>
          clear hin hIp
          obtain ⟨k, hk, rfl, hp, hIr, hne, htr, hszr⟩ := hrel
          by_cases hlt : k < ls.length
          · obtain ⟨x, hx⟩ : ∃ x, ls[k]? = some x := ⟨_, List.getElem?_eq_getElem hlt⟩
            have c1 := ints_at0 hIr k x hx
            have CA := IH.out x (List.mem_of_getElem? hx) wr _ _ hp.1 (HB.out k hlt) (Nat.le_trans hB hszr) htr
            have HX : Hid _ := hx
            clear hx
            go_wp2_with fail
            refine CA.mono ?_
            rintro e w2 ⟨v2, rfl, h2⟩
            have HA : Hid _ := arel_step hlt HX.out hB1 hB2 hp hIr hne htr hszr h2
            clear CA c1 h2 hp hIr
            go_wp2
            exact ⟨HA.out, by simp [intOf]; omega⟩
          · have hk3 : k = ls.length := by omega
            subst hk3
            rw [List.take_length] at hp
            go_wp2
            go_ret
            rw [HF.out]
            exact ⟨_, rfl, hp⟩

theorem app_any (r : Int) (w : World) (B : Nat) (l : Value) (acc : List Int) (hg : goodB r = true) (hI : Ints w B l acc) (ha : acc.length ≤ 3900) (hB : B ≤ w.heap.size) (hB1 : 1 < B) (hB2 : 2 < B) (ht : Tabs w) :
    Calls Tryz.prog 91 #[l, .int .i64 r] w fun e w' => ∃ v, e = .returned v ∧ ApPost w B l (acc ++ all2 r) v w' :=
  app_n 2 (Nat.le_refl _) r w B l acc (lev2 r) hg hI (by omega) hB hB1 hB2 ht
end Go.Proofs.YtinjldagfhbioaaGreatDoor

namespace Go.Proofs.YtinjldagfhbioaaGreatDoor
open Go.RowKit

/-- What fullNormalD answers. -/
def fullA (zs : List Int) : List Int := if okR zs = true then nD zs else []

theorem runs_any {w : World} {B : Nat} {v : Value} {zs : List Int} (hz : zs.length ≤ 1048576) (hI : Ints w B v zs) (hB : 0 < B) (hm : Held w 0 marksF) :
    Calls Tryz.prog 92 #[v] w fun e w' => e = .returned (.tuple #[]) ∧ Ints w' B v (sortM zs) ∧ w.grownBy w' v.ownBlock := by
  rcases hI.form with ⟨rfl, rfl⟩ | ⟨g, cap, rfl, _, _⟩
  · refine (sortRuns_nil w).mono ?_
    rintro e w' ⟨rfl, rfl⟩
    rw [show sortM [] = [] by decide]
    exact ⟨rfl, ⟨rfl, .inl ⟨rfl, rfl⟩⟩, grown_refl _ _⟩
  · refine (sortRuns_any w B g cap zs.length zs hI hB hz hm).mono ?_
    rintro e w' ⟨rfl, hs⟩
    refine ⟨rfl, ?_, hs.2.1⟩
    have := hs.1
    unfold Own at this
    unfold Ints
    rw [sortM_length]
    exact this

def NRel (w : World) (zs : List Int) (lv i : Value) (wr : World) : Prop :=
  ∃ k : Nat, k ≤ zs.length ∧ i = .int .i64 k ∧ Ints wr w.heap.size lv ((zs.take k).flatMap all2) ∧ Below w.heap.size w wr

theorem nrel_step {w wr w2 : World} {zs : List Int} {k : Nat} {x : Int} {lv v : Value} (hk : k < zs.length) (hx : zs[k]? = some x) (h : Ints wr w.heap.size lv ((zs.take k).flatMap all2)) (hb : Below w.heap.size w wr)
    (hp : ApPost wr w.heap.size lv ((zs.take k).flatMap all2 ++ all2 x) v w2) : NRel w zs v (.int .i64 ((k : Int) + 1)) w2 := by
  refine ⟨k + 1, hk, by go_num, ?_, Below.grown hb hp.2.1 hb.size (fun j hj => (World.ownsRow.lt h j hj).1)⟩
  rw [take_flat hx]
  exact hp.1

set_option maxRecDepth 100000 in
set_option maxHeartbeats 2000000 in
theorem fullD_row (w : World) (B g cap : Nat) (zs : List Int) (hok : okR zs = true) (hI : Ints w B (.slice (some ⟨g, 0, none⟩) zs.length cap) zs) (hm : Held w 0 marksF) (ht : Tabs w) :
    Calls Tryz.prog 77 #[.slice (some ⟨g, 0, none⟩) zs.length cap] w fun e w' => ∃ v', e = .returned (.tuple #[v', .bool true]) ∧ Ints w' w.heap.size v' (nD zs) ∧ Below w.heap.size w w' := by
  have G := goods_any hI
  rw [hok] at G
  have hz := (okR_true hok).1
  have HG : Hid (∀ x ∈ zs, goodB x = true) := (okR_true hok).2
  have HB : Hid (∀ k, ((zs.take k).flatMap all2).length ≤ 1800) := fun k => Nat.le_trans (take_flat_len zs k all2_len) (by omega)
  clear hok
  go_enter Tryz.func77, Tryz.ntmps77
  go_wp2_with fail
  refine G.mono ?_
  rintro e w1 ⟨rfl, rfl⟩
  clear G
  go_wp2_with fail
  go_loopw [4, 12] (fun lv i wr => NRel w1 zs lv i wr) (fun _ i _ => zs.length - (intOf i).toNat)
  case atStart => exact ⟨0, Nat.zero_le _, rfl, ⟨rfl, .inl ⟨rfl, rfl⟩⟩, Below.refl _ _⟩
  case round =>
    obtain ⟨k, hk, rfl, ho, hbr⟩ := hrel
    by_cases hlt : k < zs.length
    · obtain ⟨x, hx⟩ : ∃ x, zs[k]? = some x := ⟨_, List.getElem?_eq_getElem hlt⟩
      have c1 := ints_at0 (hI.below hbr) k x hx
      have CA := app_any x wr w1.heap.size _ _ (HG.out x (List.mem_of_getElem? hx)) ho (Nat.le_trans (HB.out k) (by omega)) hbr.size ht.1.lt ht.2.lt (ht.below hbr)
      have HX : Hid _ := hx
      clear hx
      go_wp2_with fail
      refine CA.mono ?_
      rintro e w2 ⟨v2, rfl, h2⟩
      have HA : Hid _ := nrel_step hlt HX.out ho hbr h2
      clear CA c1 h2
      go_wp2
      exact ⟨HA.out, by simp [intOf]; omega⟩
    · have hk3 : k = zs.length := by omega
      subst hk3
      rw [List.take_length] at ho
      have R := runs_any (zs := apD zs) (Nat.le_trans (apD_len zs) (by omega)) ho hm.lt (hm.below hbr hm.lt)
      have HL : Hid (∀ j, Value.ownBlock _ = some j → w1.heap.size ≤ j) := fun j hj => (World.ownsRow.lt ho j hj).1
      clear ho
      go_wp2_with fail
      refine R.mono ?_
      rintro e w2 ⟨rfl, h1, h2⟩
      clear R
      go_wp2
      go_ret2
      exact ⟨_, rfl, h1, Below.grown hbr h2 hbr.size HL.out⟩

set_option maxRecDepth 100000 in
set_option maxHeartbeats 2000000 in
theorem fullD_nil (w : World) (hm : Held w 0 marksF) :
    Calls Tryz.prog 77 #[.slice none 0 0] w fun e w' => ∃ v', e = .returned (.tuple #[v', .bool true]) ∧ Ints w' w.heap.size v' [] ∧ Below w.heap.size w w' := by
  have G := goods_none w none 0
  have R := sortRuns_nil
  go_enter Tryz.func77, Tryz.ntmps77
  go_wp2_with fail
  refine G.mono ?_
  rintro e w1 ⟨rfl, rfl⟩
  clear G
  go_wp2_with fail
  go_loop [4, 12] (fun o i => o = .slice none 0 0 ∧ i = .int .i64 0) (fun _ _ => 0)
  case atStart => exact ⟨rfl, rfl⟩
  case round =>
    obtain ⟨rfl, rfl⟩ := hrel
    go_wp2_with fail
    refine (R _).mono ?_
    rintro e w2 ⟨rfl, rfl⟩
    clear R
    go_wp2
    go_ret2
    exact ⟨_, rfl, ⟨rfl, .inl ⟨rfl, rfl⟩⟩, Below.refl _ _⟩

set_option maxRecDepth 100000 in
set_option maxHeartbeats 2000000 in
theorem fullD_any {w : World} {B : Nat} {v : Value} {zs : List Int} (hI : Ints w B v zs) (hm : Held w 0 marksF) (hc : Held w 1 capF) (ho : Held w 2 othF) :
    Calls Tryz.prog 77 #[v] w fun e w' => ∃ v', e = .returned (.tuple #[v', .bool (okR zs)]) ∧ Ints w' w.heap.size v' (fullA zs) ∧ Below w.heap.size w w' := by
  unfold fullA
  cases hok : okR zs
  · have G := goods_any hI
    rw [hok] at G
    rw [if_neg (by simp)]
    clear hI hok hm hc ho
    go_enter Tryz.func77, Tryz.ntmps77
    go_wp2_with fail
    refine G.mono ?_
    rintro e w1 ⟨rfl, rfl⟩
    clear G
    go_wp2
    go_ret2
    exact ⟨_, rfl, ⟨rfl, .inl ⟨rfl, rfl⟩⟩, Below.refl _ _⟩
  · rw [if_pos rfl]
    rcases hI.form with ⟨rfl, rfl⟩ | ⟨g, cap, rfl, _, _⟩
    · rw [show nD [] = [] by decide]
      exact fullD_nil w hm
    · exact fullD_row w B g cap zs hok hI hm ⟨hc, ho⟩

theorem fullA_len (zs : List Int) : (fullA zs).length ≤ 1800 := by
  unfold fullA
  split
  · rename_i h
    have h6 := (okR_true h).1
    have h7 := apD_len zs
    rw [nD_len]; omega
  · simp

end Go.Proofs.YtinjldagfhbioaaGreatDoor

namespace Go.Proofs.YtinjldagfhbioaaGreatDoor
open Go.RowKit

def EqualTo (a b : List Int) (k : Nat) : Prop := ∀ j, j < k → a[j]? = b[j]?

set_option maxRecDepth 100000 in
set_option maxHeartbeats 1000000 in
theorem equal_none (w : World) (a b : Option Addr) (c d : Nat) : Calls Tryz.prog 24 #[.slice a 0 c, .slice b 0 d] w fun e w' => e = .returned (.bool true) ∧ ∃ n, w' = w.drewN n := by
  go_enter Tryz.func24, Tryz.ntmps24
  go_wp2
  go_loopw [13] (fun i wr => i = .int .i64 0 ∧ wr = w) (fun _ _ => 0)
  case atStart => exact ⟨rfl, rfl⟩
  case round =>
    obtain ⟨rfl, rfl⟩ := hrel
    go_wp2
    go_ret
    exact ⟨rfl, 0, rfl⟩

set_option maxRecDepth 100000 in
set_option maxHeartbeats 1000000 in
theorem equal_len (w : World) (a b : Option Addr) (n m c d : Nat) (h : n ≠ m) : Calls Tryz.prog 24 #[.slice a n c, .slice b m d] w fun e w' => e = .returned (.bool false) ∧ ∃ n, w' = w.drewN n := by
  have h2 : ((n : Int) != (m : Int)) = true := by simp; omega
  go_enter Tryz.func24, Tryz.ntmps24
  go_wp2
  go_ret
  exact ⟨rfl, 0, rfl⟩

set_option maxRecDepth 100000 in
set_option maxHeartbeats 1000000 in
theorem equal_row (w : World) (g g' cap cap' n : Nat) (za zb : List Int) (ha : za.length = n) (hb : zb.length = n) (hz : n ≤ 1048576)
    (h1 : ∀ j, j < n → w.cell? ⟨g, j, none⟩ = some (.int .i64 (za[j]?.getD 0)))
    (h2 : ∀ j, j < n → w.cell? ⟨g', j, none⟩ = some (.int .i64 (zb[j]?.getD 0))) :
    Calls Tryz.prog 24 #[.slice (some ⟨g, 0, none⟩) n cap, .slice (some ⟨g', 0, none⟩) n cap'] w fun e w' => e = .returned (.bool (decide (za = zb))) ∧ ∃ n, w' = w.drewN n := by
  go_enter Tryz.func24, Tryz.ntmps24
  go_wp2
  go_loopw [13] (fun i wr => ∃ k nq : Nat, k ≤ n ∧ i = .int .i64 k ∧ wr = w.drewN nq ∧ Hid (EqualTo za zb k)) (fun i _ => n - (intOf i).toNat)
  case atStart => exact ⟨0, 0, Nat.zero_le _, rfl, rfl, fun j hj => by omega⟩
  case round =>
    obtain ⟨k, nq, hk, rfl, rfl, HS⟩ := hrel
    by_cases hlt : k < n
    · obtain ⟨x, hx⟩ : ∃ x, za[k]? = some x := ⟨_, List.getElem?_eq_getElem (by omega)⟩
      obtain ⟨y, hy⟩ : ∃ y, zb[k]? = some y := ⟨_, List.getElem?_eq_getElem (by omega)⟩
      have g1 := h1 k hlt
      have g2 := h2 k hlt
      rw [hx] at g1
      rw [hy] at g2
      have e1 : w.cell? ⟨g, k, none⟩ = some (.int .i64 x) := g1
      have e2 : w.cell? ⟨g', k, none⟩ = some (.int .i64 y) := g2
      have hz2 : (k : Int) < (n : Int) := by omega
      have HX : Hid _ := hx
      have HY : Hid _ := hy
      have HA : Hid _ := ha
      have HB : Hid _ := hb
      clear h1 h2 g1 g2 hx hy ha hb
      by_cases e : x = y
      · subst e
        have HS2 : Hid (EqualTo za zb (k + 1)) := by
          intro j hj
          by_cases e : j = k
          · subst e; rw [HX.out, HY.out]
          · exact HS.out j (by omega)
        go_wp2
        go_quiet (fail)
        go_wp2
        exact ⟨⟨k + 1, _, by omega, by go_num, rfl, HS2⟩, by simp [intOf]; omega⟩
      · have hne : (x != y) = true := by simpa using e
        have HN : Hid (false = decide (za = zb)) := by
          refine (decide_eq_false fun h => e ?_).symm
          have := HX.out
          rw [h, HY.out] at this
          exact (Option.some.inj this).symm
        clear e
        go_wp2
        go_quiet (fail)
        go_wp2
        go_ret
        exact ⟨ret_b HN.out, _, World.drewN_drewN _ _ _⟩
    · have HN : Hid (true = decide (za = zb)) := by
        refine (decide_eq_true ?_).symm
        apply List.ext_getElem?
        intro j
        by_cases hj : j < k
        · exact HS.out j hj
        · rw [List.getElem?_eq_none (by omega), List.getElem?_eq_none (by omega)]
      have HA : Hid _ := ha
      have HB : Hid _ := hb
      clear h1 h2 ha hb
      go_wp2
      go_ret
      exact ⟨ret_b HN.out, _, rfl⟩

theorem equal_any {w : World} {B B' : Nat} {a b : Value} {za zb : List Int} (hza : za.length ≤ 1048576) (hzb : zb.length ≤ 1048576) (ha : Ints w B a za) (hb : Ints w B' b zb) :
    Calls Tryz.prog 24 #[a, b] w fun e w' => e = .returned (.bool (decide (za = zb))) ∧ ∃ n, w' = w.drewN n := by
  by_cases h : za.length = zb.length
  · rcases ha.form with ⟨rfl, rfl⟩ | ⟨g, cap, rfl, h1, h2⟩
    · have e : zb = [] := List.eq_nil_of_length_eq_zero (by simpa using h.symm)
      subst e
      rcases hb.form with ⟨rfl, _⟩ | ⟨g', cap', rfl, _, _⟩
      · exact equal_none w _ _ _ _
      · exact equal_none w _ _ _ _
    · rcases hb.form with ⟨rfl, rfl⟩ | ⟨g', cap', rfl, _, _⟩
      · have e : za = [] := List.eq_nil_of_length_eq_zero (by simpa using h)
        subst e
        exact equal_none w _ _ _ _
      · rw [← h]
        exact equal_row w g g' cap cap' za.length za zb rfl h.symm hza (fun j hj => ha.cell j hj) (fun j hj => hb.cell j (by omega))
  · have e : decide (za = zb) = false := decide_eq_false (fun e => h (by rw [e]))
    rw [e]
    rcases ha.form with ⟨rfl, rfl⟩ | ⟨g, cap, rfl, h1, h2⟩
    · rcases hb.form with ⟨rfl, rfl⟩ | ⟨g', cap', rfl, _, _⟩
      · exact absurd rfl h
      · exact equal_len w _ _ _ _ _ _ (by simpa using h)
    · rcases hb.form with ⟨rfl, rfl⟩ | ⟨g', cap', rfl, _, _⟩
      · exact equal_len w _ _ _ _ _ _ (by simpa using h)
      · exact equal_len w _ _ _ _ _ _ h
end Go.Proofs.YtinjldagfhbioaaGreatDoor

namespace Go.Proofs.YtinjldagfhbioaaGreatDoor
open Go.RowKit

set_option maxRecDepth 100000 in
set_option maxHeartbeats 1000000 in
theorem implIsN_any {w : World} {B : Nat} {v : Value} {zs : List Int} (hz : zs.length ≤ 1048576) (hI : Ints w B v zs) (hm : Held w 0 marksF) (hc : Held w 1 capF) (ho : Held w 2 othF) :
    Calls Tryz.prog 99 #[v] w fun e w' => e = .returned (.tuple #[.bool (isD zs), .bool (okR zs)]) ∧ Below w.heap.size w w' := by
  have D := fullD_any hI hm hc ho
  have hbd := fullA_len zs
  unfold isD
  clear hm hc ho
  cases hok : okR zs
  · rw [hok] at D
    clear hI hok hbd
    go_enter Tryz.func99, Tryz.ntmps99
    go_wp2_with fail
    refine D.mono ?_
    rintro e w1 ⟨v1, rfl, h1, h2⟩
    clear D
    go_wp2
    go_ret2
    exact ⟨rfl, h2⟩
  · unfold fullA at D hbd
    rw [hok, if_pos rfl] at D
    rw [hok, if_pos rfl] at hbd
    clear hok
    generalize nD zs = ds at *
    go_enter Tryz.func99, Tryz.ntmps99
    go_wp2_with fail
    refine D.mono ?_
    rintro e w1 ⟨v1, rfl, h1, h2⟩
    have E := equal_any (by omega) hz h1 (hI.below h2)
    clear D
    go_wp2_with fail
    refine E.mono ?_
    rintro e w2 ⟨rfl, n2, rfl⟩
    clear E
    go_wp2
    go_ret2
    exact ⟨rfl, below_drewN h2 n2⟩
end Go.Proofs.YtinjldagfhbioaaGreatDoor

namespace Go.Proofs.YtinjldagfhbioaaGreatDoor
open Go.RowKit

/-- Whether an elem may be an entry's. -/
def elOk (e : El) : Bool := decide (1 ≤ e.first ∧ e.first ≤ 65535) && (decide (32 ≤ e.second ∧ e.second ≤ 999) && (decide (2 ≤ e.third ∧ e.third ≤ 99) && !e.varies))

set_option maxRecDepth 100000 in
set_option maxHeartbeats 2000000 in
theorem goodElem_any (e : El) (w : World) : Calls Tryz.prog 87 #[.agg #[.int .i64 e.first, .int .i64 e.second, .int .i64 e.third, .bool e.varies]] w fun x w' => x = .returned (.bool (elOk e)) ∧ Below w.heap.size w w' := by
  obtain ⟨b, HB⟩ : ∃ b, Hid (elOk e = b) := ⟨_, rfl⟩
  rw [HB.out]
  obtain ⟨a, c, d, v⟩ := e
  simp only at *
  have hal := (Below.refl w.heap.size w).alloc (Nat.le_refl _) (.cells #[.int .i64 a, .int .i64 c, .int .i64 d, .bool v] 72)
  have fin : ∀ x, (x = true ↔ ((1 ≤ a ∧ a ≤ 65535) ∧ (32 ≤ c ∧ c ≤ 999) ∧ (2 ≤ d ∧ d ≤ 99) ∧ v = false)) → b = x := by
    intro x hx
    rw [← HB.out]
    unfold elOk
    rw [Bool.eq_iff_iff, hx]
    simp
  have HF : Hid _ := fin
  clear fin HB
  by_cases h1 : 1 ≤ a
  · by_cases h2 : a ≤ 65535
    · by_cases h3 : 32 ≤ c
      · by_cases h4 : c ≤ 999
        · by_cases h5 : 2 ≤ d
          · by_cases h6 : d ≤ 99
            · cases v
              · rw [HF.out true (by simp; omega)]
                clear HF
                go_enter Tryz.func87, Tryz.ntmps87
                go_wp2
                go_ret
                exact ⟨rfl, hal⟩
              · rw [HF.out false (by simp)]
                clear HF
                go_enter Tryz.func87, Tryz.ntmps87
                go_wp2
                go_ret
                exact ⟨rfl, hal⟩
            · rw [HF.out false (by simp; omega)]
              clear HF
              go_enter Tryz.func87, Tryz.ntmps87
              go_wp2
              go_ret
              exact ⟨rfl, hal⟩
          · rw [HF.out false (by simp; omega)]
            clear HF
            go_enter Tryz.func87, Tryz.ntmps87
            go_wp2
            go_ret
            exact ⟨rfl, hal⟩
        · rw [HF.out false (by simp; omega)]
          clear HF
          go_enter Tryz.func87, Tryz.ntmps87
          go_wp2
          go_ret
          exact ⟨rfl, hal⟩
      · rw [HF.out false (by simp; omega)]
        clear HF
        go_enter Tryz.func87, Tryz.ntmps87
        go_wp2
        go_ret
        exact ⟨rfl, hal⟩
    · rw [HF.out false (by simp; omega)]
      clear HF
      go_enter Tryz.func87, Tryz.ntmps87
      go_wp2
      go_ret
      exact ⟨rfl, hal⟩
  · rw [HF.out false (by simp; omega)]
    clear HF
    go_enter Tryz.func87, Tryz.ntmps87
    go_wp2
    go_ret
    exact ⟨rfl, hal⟩

/-- The program's tables. -/
def Tabs3 (w : World) : Prop := Held w 0 marksF ∧ Held w 1 capF ∧ Held w 2 othF
theorem Tabs3.below {w w' : World} (h : Tabs3 w) (hb : Below w.heap.size w w') : Tabs3 w' := ⟨h.1.below hb h.1.lt, h.2.1.below hb h.2.1.lt, h.2.2.below hb h.2.2.lt⟩

theorem runesOk_far {l : List Int} (h : ¬ (1 ≤ l.length ∧ l.length ≤ 4)) : runesOk l = false := by
  unfold runesOk
  rw [decide_eq_false h, Bool.false_and]

theorem runesOk_near {l : List Int} (h : 1 ≤ l.length ∧ l.length ≤ 4) : runesOk l = (isD l && okR l) := by
  unfold runesOk isD
  rw [decide_eq_true h, Bool.true_and]
  cases okR l <;> simp

set_option maxRecDepth 100000 in
set_option maxHeartbeats 2000000 in
theorem joined_any {w : World} {B : Nat} {v : Value} {l : List Int} (hz : l.length ≤ 1048576) (hI : Ints w B v l) (ht : Tabs3 w) :
    Calls Tryz.prog 86 #[v] w fun e w' => e = .returned (.bool (runesOk l)) ∧ Below w.heap.size w w' := by
  have D := implIsN_any hz hI ht.1 ht.2.1 ht.2.2
  obtain ⟨a, c, rfl⟩ : ∃ a c, v = .slice a l.length c := by
    rcases hI.form with ⟨rfl, rfl⟩ | ⟨g, cap, rfl, _, _⟩
    · exact ⟨_, _, rfl⟩
    · exact ⟨_, _, rfl⟩
  clear hI ht
  by_cases h1 : 1 ≤ l.length
  · by_cases h2 : l.length ≤ 4
    · rw [runesOk_near ⟨h1, h2⟩]
      have h3 : ¬ (l.length : Int) < 1 := by omega
      have h4 : ¬ (4 : Int) < (l.length : Int) := by omega
      generalize isD l = x at *
      generalize okR l = y at *
      generalize l.length = n at *
      cases x
      · go_enter Tryz.func86, Tryz.ntmps86
        go_wp2_with fail
        refine D.mono ?_
        rintro e w1 ⟨rfl, b1⟩
        clear D
        go_wp2
        go_ret
        exact ⟨rfl, b1⟩
      · go_enter Tryz.func86, Tryz.ntmps86
        go_wp2_with fail
        refine D.mono ?_
        rintro e w1 ⟨rfl, b1⟩
        clear D
        go_wp2
        go_ret
        exact ⟨rfl, b1⟩
    · rw [runesOk_far (fun h => h2 h.2)]
      have h3 : ¬ (l.length : Int) < 1 := by omega
      have h4 : (4 : Int) < (l.length : Int) := by omega
      clear D
      go_enter Tryz.func86, Tryz.ntmps86
      go_wp2
      go_ret
      exact ⟨rfl, Below.refl _ _⟩
  · rw [runesOk_far (fun h => h1 h.1)]
    have h3 : (l.length : Int) < 1 := by omega
    clear D
    go_enter Tryz.func86, Tryz.ntmps86
    go_wp2
    go_ret
    exact ⟨rfl, Below.refl _ _⟩
end Go.Proofs.YtinjldagfhbioaaGreatDoor

namespace Go.Proofs.YtinjldagfhbioaaGreatDoor
open Go.RowKit

theorem okD_eq {zs : List Int} (h : okR zs = true) : okD zs = decide ((nD zs).length ≤ 200) := by
  unfold okD
  rw [h, Bool.true_and, nD_len]

set_option maxRecDepth 100000 in
set_option maxHeartbeats 2000000 in
theorem implD_any {w : World} {B : Nat} {v : Value} {zs : List Int} (_hz : zs.length ≤ 1048576) (hI : Ints w B v zs) (hm : Held w 0 marksF) (hc : Held w 1 capF) (ho : Held w 2 othF) :
    Calls Tryz.prog 55 #[v] w fun e w' => ∃ v', e = .returned (.tuple #[v', .bool (okD zs)]) ∧ Ints w' w.heap.size v' (ansD zs) ∧ Below w.heap.size w w' := by
  have F := fullD_any hI hm hc ho
  have hlen := fullA_len zs
  unfold ansD
  clear hI hm hc ho
  cases hok : okR zs
  · rw [hok] at F
    rw [okD_no hok, if_neg (by simp)]
    clear hok hlen
    go_enter Tryz.func55, Tryz.ntmps55
    go_wp2_with fail
    refine F.mono ?_
    rintro e w1 ⟨v1, rfl, h1, h2⟩
    clear F
    go_wp2
    go_ret2
    exact ⟨_, rfl, ⟨rfl, .inl ⟨rfl, rfl⟩⟩, h2⟩
  · rw [hok] at F
    unfold fullA at F hlen
    rw [okD_eq hok]
    rw [hok, if_pos rfl] at F hlen
    clear hok
    generalize nD zs = ds at *
    by_cases hl : ds.length ≤ 200
    · have hl2 : ¬ (200 : Int) < (ds.length : Int) := by omega
      rw [decide_eq_true hl, if_pos rfl]
      go_enter Tryz.func55, Tryz.ntmps55
      go_wp2_with fail
      refine F.mono ?_
      rintro e w1 ⟨v1, rfl, h1, h2⟩
      clear F
      rcases h1.form with ⟨rfl, rfl⟩ | ⟨g, cap, rfl, _, _⟩
      · go_wp2
        go_ret2
        exact ⟨_, rfl, h1, h2⟩
      · go_wp2
        go_ret2
        exact ⟨_, rfl, h1, h2⟩
    · have hl2 : (200 : Int) < (ds.length : Int) := by omega
      rw [decide_eq_false hl, if_neg (by simp)]
      go_enter Tryz.func55, Tryz.ntmps55
      go_wp2_with fail
      refine F.mono ?_
      rintro e w1 ⟨v1, rfl, h1, h2⟩
      clear F
      rcases h1.form with ⟨rfl, rfl⟩ | ⟨g, cap, rfl, _, _⟩
      · exact absurd (by simp) hl
      · go_wp2
        go_ret2
        exact ⟨_, rfl, ⟨rfl, .inl ⟨rfl, rfl⟩⟩, h2⟩
end Go.Proofs.YtinjldagfhbioaaGreatDoor

namespace Go.Proofs.YtinjldagfhbioaaGreatDoor
open Go.RowKit

set_option maxRecDepth 100000 in
set_option maxHeartbeats 1000000 in
theorem implDecode_any (s : ByteArray) (w : World) (hs : s.size ≤ 200) :
    Calls Tryz.prog 54 #[.string s] w fun e w' => ∃ v, e = .returned (.tuple #[v, .bool true]) ∧ Ints w' w.heap.size v (Dec.decT s.size s).1 ∧ Below w.heap.size w w' := by
  have D := fun w => readText_any s w (by omega)
  go_enter Tryz.func54, Tryz.ntmps54
  go_wp2_with (go_at_call 76; refine (D _).mono ?_; rintro e w' ⟨v, rfl, hI, hb⟩)
  go_ret2
  exact ⟨_, rfl, hI, hb⟩

set_option maxRecDepth 100000 in
set_option maxHeartbeats 1000000 in
theorem implDecode_no (s : ByteArray) (w : World) (hs : 200 < s.size) (hm : s.size ≤ 1048576) :
    Calls Tryz.prog 54 #[.string s] w fun e w' => e = .returned (.tuple #[.slice none 0 0, .bool false]) ∧ w' = w := by
  go_enter Tryz.func54, Tryz.ntmps54
  go_wp2
  go_ret2
  exact ⟨rfl, rfl⟩
end Go.Proofs.YtinjldagfhbioaaGreatDoor

namespace Go.Proofs.YtinjldagfhbioaaGreatDoor
open Go.RowKit

theorem okR_dec {x : ByteArray} (h : x.size ≤ 200) : okR (Dec.decT x.size x).1 = true := decide_eq_true ⟨Nat.le_trans (Dec.decT_len x.size x (Nat.le_refl _)).1 h, dec_good x.size x⟩

/-- The runes of a text, where they are not too many. -/
def aR (x : ByteArray) : List Int := if ok4 x = true then rn4 x else []

theorem aR_len (x : ByteArray) : (aR x).length ≤ 200 := by
  unfold aR
  split
  · rename_i h
    exact (of_decide_eq_true h).2
  · simp

set_option maxRecDepth 100000 in
set_option maxHeartbeats 4000000 in
theorem apartT_any (x : ByteArray) (hx : x.size ≤ 1048576) (u : World) (ht : Tabs3 u) :
    Calls Tryz.prog 34 #[.string x] u fun e u' => ∃ v, e = .returned (.tuple #[v, .bool (ok4 x)]) ∧ Ints u' u.heap.size v (aR x) ∧ Below u.heap.size u u' := by
  by_cases h : x.size ≤ 200
  · have D := fun w => implDecode_any x w h
    have hok := okR_dec h
    have hlen := (Dec.decT_len x.size x (Nat.le_refl _)).1
    have N := fun (u' : World) (v : Value) (hb : Below u.heap.size u u') (hI : Ints u' u.heap.size v (Dec.decT x.size x).1) => implD_any (by omega) hI (ht.below hb).1 (ht.below hb).2.1 (ht.below hb).2.2
    have ho4 : okD (Dec.decT x.size x).1 = ok4 x := by
      rw [okD_eq hok]
      unfold ok4 rn4
      rw [decide_eq_decide]
      omega
    have han : ansD (Dec.decT x.size x).1 = aR x := by
      unfold ansD aR
      rw [ho4]
      rfl
    rw [ho4, han] at N
    generalize (Dec.decT x.size x).1 = ds at *
    generalize ok4 x = ok at *
    generalize aR x = l at *
    clear hok ht ho4 han
    go_enter Tryz.func34, Tryz.ntmps34
    go_wp2_with fail
    refine (D _).mono ?_
    rintro e w1 ⟨v1, rfl, i1, b1⟩
    clear D
    have N1 := N _ _ b1 i1
    clear N i1
    go_wp2_with fail
    refine N1.mono ?_
    rintro e w2 ⟨v2, rfl, i2, b2⟩
    clear N1
    go_wp2
    go_ret2
    exact ⟨_, rfl, ints_low2 i2 b1.size, b1.trans (b2.mono b1.size)⟩
  · have D := fun w => implDecode_no x w (by omega) hx
    have h1 : ok4 x = false := decide_eq_false fun c => h c.1
    have h2 : aR x = [] := by unfold aR; rw [h1]; rfl
    rw [h1, h2]
    clear h1 h2 ht
    go_enter Tryz.func34, Tryz.ntmps34
    go_wp2_with fail
    refine (D _).mono ?_
    rintro e w1 ⟨rfl, rfl⟩
    clear D
    go_wp2
    go_ret2
    exact ⟨_, rfl, ⟨rfl, .inl ⟨rfl, rfl⟩⟩, Below.refl _ _⟩
end Go.Proofs.YtinjldagfhbioaaGreatDoor
