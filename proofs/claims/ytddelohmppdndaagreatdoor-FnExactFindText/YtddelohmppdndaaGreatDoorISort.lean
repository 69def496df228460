/- Contract of the program's sortBy at ClassOf: a part of a row of the call's own is sorted in place. -/
import Derived.Test.YtddelohmppdndaaGreatDoorIClass
import Derived.Test.YtddelohmppdndaaGreatDoorSort2
import Derived.Deep.RegionHeld
namespace Go.Proofs.YtddelohmppdndaaGreatDoor
open Go.RowKit

/-- A row of integers of the call's own, its block and its capacity told. -/
def Own (w : World) (B g cap n : Nat) (l : List Int) : Prop := w.ownsRow B 3 1 (.slice (some ⟨g, 0, none⟩) n cap) n (l.map (Value.int .i64))

theorem Own.len {w : World} {B g cap n : Nat} {l : List Int} (h : Own w B g cap n l) : l.length = n := by simpa using h.1

theorem Own.cell {w : World} {B g cap n : Nat} {l : List Int} (h : Own w B g cap n l) (j : Nat) (hj : j < n) : w.cell? ⟨g, j, none⟩ = some (.int .i64 (at0 l j)) := by
  have h1 := World.ownsRow.cellAt h j (by omega)
  rw [h1]
  have := h.len
  simp [at0, show j < l.length by omega]

theorem below_grownBy {w w' : World} (hb : Below w.heap.size w w') (row : Option Nat) : w.grownBy w' row := ⟨hb.os, hb.tape, hb.output, hb.size, fun k hk _ => hb.block k hk⟩

theorem grown_refl (w : World) (row : Option Nat) : w.grownBy w row := ⟨rfl, rfl, rfl, Nat.le_refl _, fun _ _ _ => rfl⟩

theorem Own.below {w w' : World} {B g cap n : Nat} {l : List Int} (h : Own w B g cap n l) (hb : Below w.heap.size w w') : Own w' B g cap n l :=
  World.ownsRow.kept h (row := none) (below_grownBy hb none) (by cases hx : (Value.slice (some ⟨g, 0, none⟩) n cap).ownBlock <;> simp)

theorem held_grown {w w' : World} {g h : Nat} {zs : List Int} (hh : Held w h zs) (hg : w.grownBy w' (some g)) (hne : h ≠ g) : Held w' h zs := by
  obtain ⟨t, fr, e⟩ := hh
  refine ⟨t, fr, ?_⟩
  rw [hg.block h ((Array.getElem?_eq_some_iff.1 e).1) (fun e => hne (Option.some.inj e))]
  exact e

/-- What stands in every world of a round's test. -/
def SH (w : World) (B g cap n : Nat) (l : List Int) (w' : World) : Prop := Own w' B g cap n l ∧ w.grownBy w' (some g) ∧ Held w' 0 marksF

theorem SH.below {w w1 w2 : World} {B g cap n : Nat} {l : List Int} (hb : Below w1.heap.size w1 w2) (h : SH w B g cap n l w1) : SH w B g cap n l w2 :=
  ⟨h.1.below hb, h.2.1.trans (below_grownBy hb _), h.2.2.below hb h.2.2.lt⟩
theorem SH.drew {w w1 : World} {B g cap n : Nat} {l : List Int} (h : SH w B g cap n l w1) : SH w B g cap n l w1.drew := h.below ((Below.refl _ _).drew)

theorem SH.cell {w w1 : World} {B g cap n : Nat} {l : List Int} (h : SH w B g cap n l w1) (j : Nat) (hj : j < n) : w1.cell? ⟨g, j, none⟩ = some (.int .i64 (at0 l j)) := h.1.cell j hj

theorem keepS {w w1 w2 : World} {B g cap n i j : Nat} {l : List Int} (hi : i < n) (hj : j < n) (hb : Below w1.heap.size w1 w2) (h : w1.cell? ⟨g, i, none⟩ = some (.int .i64 (at0 l i)) ∧ w1.cell? ⟨g, j, none⟩ = some (.int .i64 (at0 l j)) ∧ SH w B g cap n l w1) :
    w2.cell? ⟨g, i, none⟩ = some (.int .i64 (at0 l i)) ∧ w2.cell? ⟨g, j, none⟩ = some (.int .i64 (at0 l j)) ∧ SH w B g cap n l w2 :=
  ⟨(h.2.2.below hb).cell i hi, (h.2.2.below hb).cell j hj, h.2.2.below hb⟩

theorem sh_swap {w w1 : World} {B g cap n : Nat} {l : List Int} (hB : 0 < B) (h : SH w B g cap n l w1) (i j : Nat) :
    SH w B g cap n ((l.set i (at0 l j)).set j (at0 l i)) ((w1.setCell ⟨g, i, none⟩ (.int .i64 (at0 l j))).setCell ⟨g, j, none⟩ (.int .i64 (at0 l i))) := by
  have h1 := World.ownsRow.stored h.1 i (.int .i64 (at0 l j))
  have h2 := World.ownsRow.stored h1.1 j (.int .i64 (at0 l i))
  have e3 : ((l.map (Value.int .i64)).set i (.int .i64 (at0 l j))).set j (.int .i64 (at0 l i)) = ((l.set i (at0 l j)).set j (at0 l i)).map (Value.int .i64) := by simp [List.map_set]
  have h3 := h2.1
  rw [e3] at h3
  have hg := h1.2.trans h2.2
  have hne : 0 ≠ g := fun e => by
    have := (World.ownsRow.lt h.1 g rfl).1
    omega
  exact ⟨h3, h.2.1.trans hg, held_grown h.2.2 hg hne⟩

def SOut (w : World) (B g cap n f m : Nat) (l : List Int) (i : Value) (wr : World) : Prop := ∃ k : Nat, k ≤ m ∧ i = .int .i64 k ∧ SH w B g cap n (srtX f l k) wr
def SIn (w : World) (B g cap n f m : Nat) (goal : List Int) (i : Value) (wr : World) : Prop := ∃ (j : Nat) (l : List Int), j < m ∧ i = .int .i64 j ∧ SH w B g cap n l wr ∧ bubX f l j = goal

set_option maxRecDepth 100000 in
set_option maxHeartbeats 4000000 in
theorem sortBy_any (w : World) (B g cap n f m c : Nat) (l : List Int) (hown : Own w B g cap n l) (hB : 0 < B) (hf : f + m ≤ n) (hn : n ≤ 1048576) (hm : Held w 0 marksF) :
    Calls Tryz.prog 101 #[.slice (some ⟨g, f, none⟩) m c, .func (.func 58) #[] #[]] w fun e w' => e = .returned (.tuple #[]) ∧ SH w B g cap n (srtX f l m) w' := by
  go_enter Tryz.func101, Tryz.ntmps101
  go_wp2
  go_loopw [8] (fun i wr => SOut w B g cap n f m l i wr) (fun i _ => m - (intOf i).toNat)
  case atStart => exact ⟨0, Nat.zero_le _, rfl, hown, grown_refl _ _, hm⟩
  case round =>
    clear hown hm
    obtain ⟨k, hk, rfl, hsh⟩ := hrel
    by_cases hlt : k < m
    · go_wp2_with fail
      go_loopw [5] (fun i wr => SIn w B g cap n f m (srtX f l (k + 1)) i wr) (fun i _ => (intOf i).toNat)
      case atStart => exact ⟨k, srtX f l k, hlt, rfl, hsh, rfl⟩
      case round =>
        clear hsh
        obtain ⟨j, l1, hj, rfl, hsh, hgoal⟩ := hrel
        have HG : Hid _ := hgoal
        clear hgoal
        cases j with
        | zero =>
          go_wp2
          go_quiet (fail)
          go_wp2
          have he : l1 = srtX f l (k + 1) := HG.out
          subst he
          exact ⟨⟨k + 1, by omega, by go_num, hsh.below (below_drewN (Below.refl _ _) _)⟩, by simp [intOf]; omega⟩
        | succ p =>
          have hp1 : f + p < n := by omega
          have hp2 : f + (p + 1) < n := by omega
          have hq3 : p < m := by omega
          have hw1 : IntKind.i64.wrap ((p : Int) + 1 - 1) = (p : Int) := by rw [IntKind.wrap_i64]; omega
          have hw2 : IntKind.i64.wrap (((p + 1 : Nat) : Int) - 1) = (p : Int) := by rw [IntKind.wrap_i64]; omega
          have hw3 : IntKind.i64.wrap (p : Int) = (p : Int) := by rw [IntKind.wrap_i64]; omega
          have hq1 : (p : Int) < (m : Int) := by omega
          have hq2 : (p : Int) + 1 < (m : Int) := by omega
          have hS : wr.cell? ⟨g, f + p, none⟩ = some (.int .i64 (at0 l1 (f + p))) ∧ wr.cell? ⟨g, f + (p + 1), none⟩ = some (.int .i64 (at0 l1 (f + (p + 1)))) ∧ SH w B g cap n l1 wr := ⟨hsh.cell _ hp1, hsh.cell _ hp2, hsh⟩
          have hS2 := keepS hp1 hp2 ((Below.refl wr.heap.size wr).drew) hS
          go_wp2_with fail
          go_region_held (fun w' => w'.cell? ⟨g, f + p, none⟩ = some (.int .i64 (at0 l1 (f + p))) ∧ w'.cell? ⟨g, f + (p + 1), none⟩ = some (.int .i64 (at0 l1 (f + (p + 1)))) ∧ SH w B g cap n l1 w')
            (first | exact hS2 | exact keepS hp1 hp2 (by assumption) (by assumption) | exact keepS hp1 hp2 (by assumption) ⟨by assumption, by assumption, by assumption⟩)
            (first | (go_at_call 58; refine (implClass_any _ _ ?_).mono ?_; (first | exact (show SH w B g cap n l1 _ by assumption).2.2 | exact (show _ ∧ _ ∧ SH w B g cap n l1 _ by assumption).2.2.2.2); rintro e w' ⟨rfl, hbw⟩))
          all_goals
            have hE : SH w B g cap n l1 w' := (show w'.cell? ⟨g, f + p, none⟩ = _ ∧ _ ∧ SH w B g cap n l1 w' by assumption).2.2
            clear hS hS2 hsh
            by_cases cc : cls (at0 l1 (f + (p + 1))) < cls (at0 l1 (f + p))
            · have HG2 : Hid (bubX f ((l1.set (f + p) (at0 l1 (f + (p + 1)))).set (f + (p + 1)) (at0 l1 (f + p))) p = srtX f l (k + 1)) := (bubX_go f l1 p cc).symm.trans HG.out
              have HW := sh_swap hB hE (f + p) (f + (p + 1))
              have e1 := hE.cell _ hp1
              have e2 := hE.cell _ hp2
              have f1 := World.ownsRow.frozenAt hE.1 (f + p)
              have f2 := World.ownsRow.frozenAt hE.1 (f + (p + 1))
              clear HG hE
              go_wp2_with fail
              go_region
              all_goals go_wp2
              all_goals exact ⟨⟨p, _, by omega, rfl, SH.drew HW, HG2.out⟩, by simp [intOf]⟩
            · have he : l1 = srtX f l (k + 1) := (bubX_stop f l1 p cc).symm.trans HG.out
              clear HG
              go_wp2
              subst he
              exact ⟨⟨k + 1, by omega, by go_num, hE⟩, by simp [intOf]; omega⟩
    · have hkm : k = m := by omega
      subst hkm
      go_wp2
      go_end0
      exact ⟨rfl, hsh⟩

theorem SH.from {w w1 w2 : World} {B g cap n : Nat} {l l' : List Int} (h : SH w B g cap n l w1) (k : SH w1 B g cap n l' w2) : SH w B g cap n l' w2 := ⟨k.1, h.2.1.trans k.2.1, k.2.2⟩

set_option maxRecDepth 100000 in
set_option maxHeartbeats 1000000 in
theorem sortBy_none (w : World) (a : Option Addr) (c : Nat) : Calls Tryz.prog 101 #[.slice a 0 c, .func (.func 58) #[] #[]] w fun e w' => e = .returned (.tuple #[]) ∧ w' = w := by
  go_enter Tryz.func101, Tryz.ntmps101
  go_wp2
  go_loop [8] (fun i => i = .int .i64 0) (fun _ => 0)
  case atStart => rfl
  case round =>
    subst hrel
    go_wp2
    go_end0
    exact ⟨rfl, rfl⟩

set_option maxRecDepth 100000 in
set_option maxHeartbeats 1000000 in
theorem sortRuns_nil (w : World) : Calls Tryz.prog 90 #[.slice none 0 0] w fun e w' => e = .returned (.tuple #[]) ∧ w' = w := by
  have SB := fun w a c => sortBy_none w a c
  go_enter Tryz.func90, Tryz.ntmps90
  go_wp2
  go_loop [2, 7] (fun f i => f = .int .i64 0 ∧ i = .int .i64 0) (fun _ _ => 0)
  case atStart => exact ⟨rfl, rfl⟩
  case round =>
    obtain ⟨rfl, rfl⟩ := hrel
    go_wp2_with (go_at_call 101; refine (SB _ _ _).mono ?_; rintro e w1 ⟨rfl, rfl⟩)
    go_end0
    exact ⟨rfl, rfl⟩
end Go.Proofs.YtddelohmppdndaaGreatDoor
