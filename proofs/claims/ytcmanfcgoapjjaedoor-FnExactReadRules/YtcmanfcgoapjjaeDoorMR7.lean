/- Proved: for every text s, of whatever length and bytes, impl.ReadRules answers as the specification's ReadRules, every field, and no two lists of its answer share memory, so the law FnExactReadRules returns true; the tables are as the program's and the library's own text lays them (the tied card). -/
import Derived.Test.YtcmanfcgoapjjaeDoorEl
import Derived.BigQuiet
import Derived.Deep.QuietTactic
import Derived.Deep.RegionHeld
import Derived.Test.YtcmanfcgoapjjaeDoorEnts
import Derived.Test.YtcmanfcgoapjjaeDoorEqI
import Derived.Deep.RegionHeldLaw
import Derived.Test.YtcmanfcgoapjjaeDoorMR6
import Derived.Test.YtcmanfcgoapjjaeDoorMarkR
import Derived.Test.YtcmanfcgoapjjaeDoorMR2
import Derived.Laws.OwnMore
import Derived.OwnWalk
import Derived.OpenShut
import Derived.Test.YtcmanfcgoapjjaeDoorProg
import Derived.WalkKit
import Derived.Below
import Derived.Lay
import Derived.MakeChecks
import Derived.Test.YtcmanfcgoapjjaeDoorCards
import Derived.Test.YtcmanfcgoapjjaeDoorTie
import Derived.ProofKit
import Derived.LaidMore
import Derived.Stop.Joined
import Derived.ChangeOld
namespace Go.Proofs.YtcmanfcgoapjjaeDoor
open Go.RowKit

set_option maxRecDepth 100000 in
set_option maxHeartbeats 1000000 in
theorem eqElem_same (w : World) (a b c : Int) (d : Bool) : Calls Tryd.prog 37 #[.agg #[.int .i64 a, .int .i64 b, .int .i64 c, .bool d], .agg #[.int .i64 a, .int .i64 b, .int .i64 c, .bool d]] w fun e w' => e = .returned (.bool true) ∧ Below w.heap.size w w' := by
  go_enter Tryd.func37, Tryd.ntmps37
  go_wp2
  go_ret
  exact ⟨rfl, ((Below.refl _ _).alloc (Nat.le_refl _) _).alloc (by simp) _⟩
end Go.Proofs.YtcmanfcgoapjjaeDoor

namespace Go.Proofs.YtcmanfcgoapjjaeDoor
open Go.RowKit

set_option maxRecDepth 100000 in
set_option maxHeartbeats 2000000 in
theorem eqEnt_same {w : World} {B B' : Nat} {x y : Value} {l : List Int} (f s t : Int) (v : Bool) (hx : Ints w B x l) (hy : Ints w B' y l) :
    Calls Tryd.prog 66 #[.agg #[x, .int .i64 f, .int .i64 s, .int .i64 t, .bool v], .agg #[y, .int .i64 f, .int .i64 s, .int .i64 t, .bool v]] w fun e w' => e = .returned (.bool true) ∧ Below w.heap.size w w' := by
  obtain ⟨xa, xn, xc, rfl⟩ : ∃ xa xn xc, x = .slice xa xn xc := by
    rcases hx.form with ⟨rfl, _⟩ | ⟨_, _, rfl, _, _⟩
    · exact ⟨_, _, _, rfl⟩
    · exact ⟨_, _, _, rfl⟩
  obtain ⟨ya, yn, yc, rfl⟩ : ∃ ya yn yc, y = .slice ya yn yc := by
    rcases hy.form with ⟨rfl, _⟩ | ⟨_, _, rfl, _, _⟩
    · exact ⟨_, _, _, rfl⟩
    · exact ⟨_, _, _, rfl⟩
  have hb := ((Below.refl w.heap.size w).alloc (Nat.le_refl _) (.cells #[.slice xa xn xc, .int .i64 f, .int .i64 s, .int .i64 t, .bool v] 63)).alloc (by simp) (.cells #[.slice ya yn yc, .int .i64 f, .int .i64 s, .int .i64 t, .bool v] 63)
  have Q := eq_any (hx.below hb) (hy.below hb)
  have E := fun u => eqElem_same u f s t v
  have HB : Hid (Below _ _ _) := hb
  clear hb hx hy
  go_enter Tryd.func66, Tryd.ntmps66
  go_wp2_with fail
  refine Q.mono ?_
  rintro e w3 ⟨rfl, n3, rfl⟩
  clear Q
  go_wp2_with fail
  refine (E _).mono ?_
  rintro e w4 ⟨rfl, b4⟩
  have h3 := below_drewN HB.out n3
  clear E
  go_wp2
  go_ret
  exact ⟨rfl, h3.trans (b4.mono h3.size)⟩

set_option maxRecDepth 100000 in
set_option maxHeartbeats 1000000 in
theorem eqEs_none (w : World) (a b : Option Addr) (c d : Nat) : Calls Tryd.prog 46 #[.slice a 0 c, .slice b 0 d] w fun e w' => e = .returned (.bool true) ∧ Below w.heap.size w w' := by
  go_enter Tryd.func46, Tryd.ntmps46
  go_wp2
  go_loopw [5] (fun i wr => i = .int .i64 0 ∧ wr = w) (fun _ _ => 0)
  case atStart => exact ⟨rfl, rfl⟩
  case round =>
    obtain ⟨rfl, rfl⟩ := hrel
    go_wp2
    go_ret
    exact ⟨rfl, Below.refl _ _⟩

theorem keep10 {w0 w1 w2 : World} {g g' k xn xc yn yc : Nat} {xa ya : Option Addr} {e : Ent} (hg : g < w0.heap.size) (hg' : g' < w0.heap.size) (hb : Below w1.heap.size w1 w2)
    (h : w1.cell? ⟨g, k * 5, none⟩ = some (.slice xa xn xc) ∧ w1.cell? ⟨g, k * 5 + 1, none⟩ = some (.int .i64 e.el.first) ∧ w1.cell? ⟨g, k * 5 + 2, none⟩ = some (.int .i64 e.el.second) ∧ w1.cell? ⟨g, k * 5 + 3, none⟩ = some (.int .i64 e.el.third) ∧ w1.cell? ⟨g, k * 5 + 4, none⟩ = some (.bool e.el.varies) ∧ w1.cell? ⟨g', k * 5, none⟩ = some (.slice ya yn yc) ∧ w1.cell? ⟨g', k * 5 + 1, none⟩ = some (.int .i64 e.el.first) ∧ w1.cell? ⟨g', k * 5 + 2, none⟩ = some (.int .i64 e.el.second) ∧ w1.cell? ⟨g', k * 5 + 3, none⟩ = some (.int .i64 e.el.third) ∧ w1.cell? ⟨g', k * 5 + 4, none⟩ = some (.bool e.el.varies) ∧ Below w0.heap.size w0 w1) :
    w2.cell? ⟨g, k * 5, none⟩ = some (.slice xa xn xc) ∧ w2.cell? ⟨g, k * 5 + 1, none⟩ = some (.int .i64 e.el.first) ∧ w2.cell? ⟨g, k * 5 + 2, none⟩ = some (.int .i64 e.el.second) ∧ w2.cell? ⟨g, k * 5 + 3, none⟩ = some (.int .i64 e.el.third) ∧ w2.cell? ⟨g, k * 5 + 4, none⟩ = some (.bool e.el.varies) ∧ w2.cell? ⟨g', k * 5, none⟩ = some (.slice ya yn yc) ∧ w2.cell? ⟨g', k * 5 + 1, none⟩ = some (.int .i64 e.el.first) ∧ w2.cell? ⟨g', k * 5 + 2, none⟩ = some (.int .i64 e.el.second) ∧ w2.cell? ⟨g', k * 5 + 3, none⟩ = some (.int .i64 e.el.third) ∧ w2.cell? ⟨g', k * 5 + 4, none⟩ = some (.bool e.el.varies) ∧ Below w0.heap.size w0 w2 := by
  obtain ⟨a0, a1, a2, a3, a4, b0, b1, b2, b3, b4, h3⟩ := h
  have q1 : g < w1.heap.size := Nat.lt_of_lt_of_le hg h3.size
  have q2 : g' < w1.heap.size := Nat.lt_of_lt_of_le hg' h3.size
  exact ⟨by rw [hb.cell q1]; exact a0, by rw [hb.cell q1]; exact a1, by rw [hb.cell q1]; exact a2, by rw [hb.cell q1]; exact a3, by rw [hb.cell q1]; exact a4, by rw [hb.cell q2]; exact b0, by rw [hb.cell q2]; exact b1, by rw [hb.cell q2]; exact b2, by rw [hb.cell q2]; exact b3, by rw [hb.cell q2]; exact b4, h3.trans (hb.mono h3.size)⟩

def EsRel (w : World) (n : Nat) (i : Value) (wr : World) : Prop := ∃ k : Nat, k ≤ n ∧ i = .int .i64 k ∧ Below w.heap.size w wr

set_option maxRecDepth 100000 in
set_option maxHeartbeats 4000000 in
theorem eqEs_row (w0 : World) (B B' g g' cap cap' : Nat) (es : List Ent) (hz : es.length ≤ 1048576) (h1 : Ents w0 B (.slice (some ⟨g, 0, none⟩) es.length cap) es) (h2 : Ents w0 B' (.slice (some ⟨g', 0, none⟩) es.length cap') es) :
    Calls Tryd.prog 46 #[.slice (some ⟨g, 0, none⟩) es.length cap, .slice (some ⟨g', 0, none⟩) es.length cap'] w0 fun e w' => e = .returned (.bool true) ∧ Below w0.heap.size w0 w' := by
  have hg : g < w0.heap.size := by
    obtain ⟨xs, _, h3, _⟩ := h1
    exact (World.ownsRow.lt h3 g rfl).2
  have hg' : g' < w0.heap.size := by
    obtain ⟨xs, _, h3, _⟩ := h2
    exact (World.ownsRow.lt h3 g' rfl).2
  go_enter Tryd.func46, Tryd.ntmps46
  go_wp2
  go_loopw [5] (fun i wr => EsRel w0 es.length i wr) (fun i _ => es.length - (intOf i).toNat)
  case atStart => exact ⟨0, Nat.zero_le _, rfl, Below.refl _ _⟩
  case round =>
    obtain ⟨k, hk, rfl, hb⟩ := hrel
    by_cases hlt : k < es.length
    · obtain ⟨e, he⟩ : ∃ e, es[k]? = some e := ⟨_, List.getElem?_eq_getElem hlt⟩
      obtain ⟨x, hI, a0, a1, a2, a3, a4⟩ := h1.cells k e he
      obtain ⟨y, hJ, b0, b1, b2, b3, b4⟩ := h2.cells k e he
      obtain ⟨xa, xn, xc, rfl⟩ : ∃ xa xn xc, x = .slice xa xn xc := by
        rcases hI.form with ⟨rfl, _⟩ | ⟨_, _, rfl, _, _⟩
        · exact ⟨_, _, _, rfl⟩
        · exact ⟨_, _, _, rfl⟩
      obtain ⟨ya, yn, yc, rfl⟩ : ∃ ya yn yc, y = .slice ya yn yc := by
        rcases hJ.form with ⟨rfl, _⟩ | ⟨_, _, rfl, _, _⟩
        · exact ⟨_, _, _, rfl⟩
        · exact ⟨_, _, _, rfl⟩
      have hk8 : (k : Int) < (es.length : Int) := by omega
      have hS0 : w0.cell? ⟨g, k * 5, none⟩ = some (.slice xa xn xc) ∧ w0.cell? ⟨g, k * 5 + 1, none⟩ = some (.int .i64 e.el.first) ∧ w0.cell? ⟨g, k * 5 + 2, none⟩ = some (.int .i64 e.el.second) ∧ w0.cell? ⟨g, k * 5 + 3, none⟩ = some (.int .i64 e.el.third) ∧ w0.cell? ⟨g, k * 5 + 4, none⟩ = some (.bool e.el.varies) ∧ w0.cell? ⟨g', k * 5, none⟩ = some (.slice ya yn yc) ∧ w0.cell? ⟨g', k * 5 + 1, none⟩ = some (.int .i64 e.el.first) ∧ w0.cell? ⟨g', k * 5 + 2, none⟩ = some (.int .i64 e.el.second) ∧ w0.cell? ⟨g', k * 5 + 3, none⟩ = some (.int .i64 e.el.third) ∧ w0.cell? ⟨g', k * 5 + 4, none⟩ = some (.bool e.el.varies) ∧ Below w0.heap.size w0 w0 := ⟨a0, a1, a2, a3, a4, b0, b1, b2, b3, b4, Below.refl _ _⟩
      have hS := keep10 hg hg' hb hS0
      have hS2 := keep10 hg hg' ((Below.refl wr.heap.size wr).drew) hS
      have EQ := fun (u : World) (hu : u.cell? ⟨g, k * 5, none⟩ = some (.slice xa xn xc) ∧ u.cell? ⟨g, k * 5 + 1, none⟩ = some (.int .i64 e.el.first) ∧ u.cell? ⟨g, k * 5 + 2, none⟩ = some (.int .i64 e.el.second) ∧ u.cell? ⟨g, k * 5 + 3, none⟩ = some (.int .i64 e.el.third) ∧ u.cell? ⟨g, k * 5 + 4, none⟩ = some (.bool e.el.varies) ∧ u.cell? ⟨g', k * 5, none⟩ = some (.slice ya yn yc) ∧ u.cell? ⟨g', k * 5 + 1, none⟩ = some (.int .i64 e.el.first) ∧ u.cell? ⟨g', k * 5 + 2, none⟩ = some (.int .i64 e.el.second) ∧ u.cell? ⟨g', k * 5 + 3, none⟩ = some (.int .i64 e.el.third) ∧ u.cell? ⟨g', k * 5 + 4, none⟩ = some (.bool e.el.varies) ∧ Below w0.heap.size w0 u) => eqEnt_same e.el.first e.el.second e.el.third e.el.varies (hI.below hu.2.2.2.2.2.2.2.2.2.2) (hJ.below hu.2.2.2.2.2.2.2.2.2.2)
      have K := fun (u1 u2 : World) (hb : Below u1.heap.size u1 u2) (hu : u1.cell? ⟨g, k * 5, none⟩ = some (.slice xa xn xc) ∧ u1.cell? ⟨g, k * 5 + 1, none⟩ = some (.int .i64 e.el.first) ∧ u1.cell? ⟨g, k * 5 + 2, none⟩ = some (.int .i64 e.el.second) ∧ u1.cell? ⟨g, k * 5 + 3, none⟩ = some (.int .i64 e.el.third) ∧ u1.cell? ⟨g, k * 5 + 4, none⟩ = some (.bool e.el.varies) ∧ u1.cell? ⟨g', k * 5, none⟩ = some (.slice ya yn yc) ∧ u1.cell? ⟨g', k * 5 + 1, none⟩ = some (.int .i64 e.el.first) ∧ u1.cell? ⟨g', k * 5 + 2, none⟩ = some (.int .i64 e.el.second) ∧ u1.cell? ⟨g', k * 5 + 3, none⟩ = some (.int .i64 e.el.third) ∧ u1.cell? ⟨g', k * 5 + 4, none⟩ = some (.bool e.el.varies) ∧ Below w0.heap.size w0 u1) => keep10 hg hg' hb hu
      clear he h1 h2 a0 a1 a2 a3 a4 b0 b1 b2 b3 b4 hI hJ hS0
      go_wp2_with fail
      go_region_held (fun u => u.cell? ⟨g, k * 5, none⟩ = some (.slice xa xn xc) ∧ u.cell? ⟨g, k * 5 + 1, none⟩ = some (.int .i64 e.el.first) ∧ u.cell? ⟨g, k * 5 + 2, none⟩ = some (.int .i64 e.el.second) ∧ u.cell? ⟨g, k * 5 + 3, none⟩ = some (.int .i64 e.el.third) ∧ u.cell? ⟨g, k * 5 + 4, none⟩ = some (.bool e.el.varies) ∧ u.cell? ⟨g', k * 5, none⟩ = some (.slice ya yn yc) ∧ u.cell? ⟨g', k * 5 + 1, none⟩ = some (.int .i64 e.el.first) ∧ u.cell? ⟨g', k * 5 + 2, none⟩ = some (.int .i64 e.el.second) ∧ u.cell? ⟨g', k * 5 + 3, none⟩ = some (.int .i64 e.el.third) ∧ u.cell? ⟨g', k * 5 + 4, none⟩ = some (.bool e.el.varies) ∧ Below w0.heap.size w0 u)
        (first | exact hS2 | exact K _ _ (by assumption) (by assumption))
        (first | (go_at_call 66; refine (EQ _ (by assumption)).mono ?_; rintro e w' ⟨rfl, hbw⟩))
      all_goals
        have hE := (show w'.cell? ⟨g, k * 5, none⟩ = _ ∧ _ ∧ _ ∧ _ ∧ _ ∧ _ ∧ _ ∧ _ ∧ _ ∧ _ ∧ Below w0.heap.size w0 w' by assumption).2.2.2.2.2.2.2.2.2.2
        clear hS hS2 EQ K
        go_wp2
        exact ⟨⟨k + 1, by omega, by go_num, hE⟩, by simp [intOf]; omega⟩
    · go_wp2
      go_ret
      exact ⟨rfl, hb⟩

theorem eqEs_any {w : World} {B B' : Nat} {a b : Value} {es : List Ent} (hz : es.length ≤ 1048576) (ha : Ents w B a es) (hb : Ents w B' b es) :
    Calls Tryd.prog 46 #[a, b] w fun e w' => e = .returned (.bool true) ∧ Below w.heap.size w w' := by
  rcases ha.form with ⟨rfl, rfl⟩ | ⟨g, cap, rfl, h1, h2, _, _⟩
  · rcases hb.form with ⟨rfl, _⟩ | ⟨g', cap', rfl, _, _, _, _⟩
    · exact eqEs_none w _ _ _ _
    · exact eqEs_none w _ _ _ _
  · rcases hb.form with ⟨rfl, rfl⟩ | ⟨g', cap', rfl, _, _, _, _⟩
    · exact eqEs_none w _ _ _ _
    · exact eqEs_row w B B' g g' cap cap' es hz ha hb

set_option maxRecDepth 100000 in
set_option maxHeartbeats 2000000 in
theorem eqRules_same {w : World} {B B' : Nat} {a b : Value} {es : List Ent} (sh : Bool) (lv : Int) (hz : es.length ≤ 1048576) (ha : Ents w B a es) (hb : Ents w B' b es) :
    Calls Tryd.prog 23 #[.agg #[a, .bool sh, .int .i64 lv], .agg #[b, .bool sh, .int .i64 lv]] w fun e w' => e = .returned (.bool true) ∧ Below w.heap.size w w' := by
  obtain ⟨xa, xn, xc, rfl⟩ : ∃ xa xn xc, a = .slice xa xn xc := by
    rcases ha.form with ⟨rfl, _⟩ | ⟨_, _, rfl, _, _, _, _⟩
    · exact ⟨_, _, _, rfl⟩
    · exact ⟨_, _, _, rfl⟩
  obtain ⟨ya, yn, yc, rfl⟩ : ∃ ya yn yc, b = .slice ya yn yc := by
    rcases hb.form with ⟨rfl, _⟩ | ⟨_, _, rfl, _, _, _, _⟩
    · exact ⟨_, _, _, rfl⟩
    · exact ⟨_, _, _, rfl⟩
  have hw := ((Below.refl w.heap.size w).alloc (Nat.le_refl _) (.cells #[.slice xa xn xc, .bool sh, .int .i64 lv] 42)).alloc (by simp) (.cells #[.slice ya yn yc, .bool sh, .int .i64 lv] 42)
  have Q := eqEs_any hz (ha.below hw) (hb.below hw)
  have HX : Hid (_ ∧ _) := And.intro (show ((w.alloc (.cells #[.slice xa xn xc, .bool sh, .int .i64 lv] 42)).alloc (.cells #[.slice ya yn yc, .bool sh, .int .i64 lv] 42)).heap[w.heap.size]? = some (.cells #[.slice xa xn xc, .bool sh, .int .i64 lv] 42) by rw [Below.heap_alloc _ _ _ (by simp)]; exact heap_alloc_new w _) (heap_alloc2_new w (.cells #[.slice xa xn xc, .bool sh, .int .i64 lv] 42) (.cells #[.slice ya yn yc, .bool sh, .int .i64 lv] 42))
  have HB : Hid (Below _ _ _) := hw
  clear hw ha hb
  go_enter Tryd.func23, Tryd.ntmps23
  go_wp2_with fail
  refine Q.mono ?_
  rintro e w3 ⟨rfl, b3⟩
  have k1 : w3.heap[w.heap.size]? = some (.cells #[.slice xa xn xc, .bool sh, .int .i64 lv] 42) := by rw [b3.block _ (by simp; omega)]; exact HX.out.1
  have k2 : w3.heap[w.heap.size + 1]? = some (.cells #[.slice ya yn yc, .bool sh, .int .i64 lv] 42) := by rw [b3.block _ (by simp)]; exact HX.out.2
  have c1 := cell_of_row _ _ 1 _ _ _ k1
  have c2 := cell_of_row _ _ 2 _ _ _ k1
  have d1 := cell_of_row _ _ 1 _ _ _ k2
  have d2 := cell_of_row _ _ 2 _ _ _ k2
  have HC : Hid (Below _ _ _) := HB.out.trans (b3.mono HB.out.size)
  clear Q k1 k2 HX HB b3
  go_wp2
  go_ret
  exact ⟨rfl, HC.out⟩
end Go.Proofs.YtcmanfcgoapjjaeDoor

namespace Go.Proofs.YtcmanfcgoapjjaeDoor
open Go.RowKit

theorem readW_inv : ∀ (n : Nat) (ws : List ByteArray), ws.length ≤ n → ∀ st st', RInv st → readW ws st = .ok st' → RInv st' := by
  intro n
  induction n with
  | zero =>
    intro ws hn st st' hi h
    have : ws = [] := List.eq_nil_of_length_eq_zero (by omega)
    subst this
    rw [readW_nil] at h
    cases h
    exact hi
  | succ n ih =>
    intro ws hn st st' hi h
    cases ws with
    | nil => rw [readW_nil] at h; cases h; exact hi
    | cons x ws =>
      have hn' : ws.length ≤ n := by simpa using hn
      cases c1 : (x.toList == wShift)
      · cases c2 : (x.toList == wLevels)
        · cases c3 : levOf x with
          | none => rw [readW_none c1 c2 c3] at h; cases h
          | some lev => cases ws with
            | nil => rw [readW_one0 c1 c2 c3] at h; cases h
            | cons y ws =>
              by_cases h4 : 200 < y.size
              · rw [readW_onel c1 c2 c3 h4] at h; cases h
              · cases h5 : putIn st lev (nD (Dec.decT y.size y).1) with
                | error c => rw [readW_onee c1 c2 c3 h4 h5] at h; cases h
                | ok st2 =>
                  rw [readW_onek c1 c2 c3 h4 h5] at h
                  exact ih ws (by simp at hn'; omega) st2 st' (putIn_inv hi h5) h
        · cases ws with
          | nil => rw [readW_lev0 c1 c2] at h; cases h
          | cons y ws =>
            cases c3 : levN y with
            | none => rw [readW_levn c1 c2 c3] at h; cases h
            | some n4 =>
              rw [readW_levs c1 c2 c3] at h
              have hb : 1 ≤ n4 ∧ n4 ≤ 4 := by
                unfold levN at c3
                split at c3
                · cases c3; omega
                · cases c3
              exact ih ws (by simp at hn'; omega) { st with lv := n4 } st' ⟨rulesOk_lv hi.good hb, hi.f0, hi.f1, hi.s0, hi.s1, hi.t0, hi.t1⟩ h
      · rw [readW_shift c1] at h
        exact ih ws hn' { st with sh := true } st' ⟨hi.good, hi.f0, hi.f1, hi.s0, hi.s1, hi.t0, hi.t1⟩ h

theorem readA_bd (s : ByteArray) : (readA s).es.length ≤ 40 ∧ ∀ e ∈ (readA s).es, e.runes.length ≤ 4 := by
  unfold readA
  split
  · exact ⟨by simp, by simp⟩
  · cases h : readW (words s) rs0 with
    | error c => exact ⟨by simp [raOf], by simp [raOf]⟩
    | ok st =>
      have hi := readW_inv _ _ (Nat.le_refl _) rs0 st rinv0 h
      have hp := rulesOk_parts hi.good
      exact ⟨hp.1, fun e he => runesOk_len (hp.2.2 e he).1⟩

set_option maxRecDepth 100000 in
set_option maxHeartbeats 8000000 in
theorem readRules_walk (w : World) (s : ByteArray) (hs : s.size ≤ maxLen)
    (I : ∀ (u : World), Below w.heap.size w u → s.size ≤ 1048576 → Calls Tryd.prog 25 #[.string s] u fun e w' => ∃ v, e = .returned (.tuple #[.agg #[v, .bool (readA s).sh, .int .i64 (readA s).lv], .int .i64 (readA s).code]) ∧ EntsD w' u.heap.size w'.heap.size v (readA s).es ∧ Below u.heap.size u w') :
    Calls Tryd.prog 7 #[.string s] w fun e w' => e = .returned (.bool true) ∧ Below w.heap.size w w' := by
  unfold maxLen at hs
  by_cases hl : 1048576 < s.size
  · have hl2 : (1048576 : Int) < (s.size : Int) := by omega
    clear I
    go_enter Tryd.func7, Tryd.ntmps7
    go_wp2
    go_ret
    exact ⟨rfl, Below.refl _ _⟩
  have hl2 : ¬ (1048576 : Int) < (s.size : Int) := by omega
  have A := read_any s w (by omega)
  unfold RdPost at A
  have hbd := readA_bd s
  have I2 := fun u hu => I u hu (by omega)
  generalize readA s = ra at *
  obtain ⟨es, sh, lv, cd⟩ := ra
  simp only at A hbd I2
  obtain ⟨hel, her⟩ := hbd
  have HR : Hid (∀ e ∈ es, e.runes.length ≤ 1000) := fun e he => Nat.le_trans (her e he) (by omega)
  have hpos := endM_pos es 1 (by omega)
  obtain ⟨en, HEN⟩ : ∃ en, Hid (endM es 1 = en) := ⟨_, rfl⟩
  have hpos2 : ¬ en < 0 := by rw [← HEN.out]; omega
  have HI : Hid _ := I2
  clear I I2 her hpos
  go_enter Tryd.func7, Tryd.ntmps7
  go_wp2_with fail
  refine A.mono ?_
  rintro e w1 ⟨v1, rfl, i1, b1⟩
  clear A
  obtain ⟨xa, xn, xc, rfl⟩ := i1.slice
  have hx2 : Blk (w1.alloc (.cells #[.slice xa xn xc, .bool sh, .int .i64 lv] 42)) w1.heap.size #[.slice xa xn xc, .bool sh, .int .i64 lv] 42 := heap_alloc_new _ _
  have b12 := (Below.refl w1.heap.size w1).alloc (Nat.le_refl _) (.cells #[.slice xa xn xc, .bool sh, .int .i64 lv] 42)
  have HB2 : Hid (Below _ _ _) := b1.trans (b12.mono b1.size)
  have HW1 : Hid (w.heap.size ≤ w1.heap.size) := b1.size
  have HX2 : Hid (Blk _ _ _ _) := hx2
  have H12 : Hid (Below _ _ _) := b12
  have HI1 : Hid (Ents _ _ _ _) := i1
  clear hx2 b12 b1 i1
  go_wp2_with fail
  refine (HI.out _ HB2.out).mono ?_
  rintro e w3 ⟨v3, rfl, d3, b3⟩
  obtain ⟨ya, yn, yc, rfl⟩ := d3.ents.slice
  have b34 := (Below.refl w3.heap.size w3).alloc (Nat.le_refl _) (.cells #[.slice ya yn yc, .bool sh, .int .i64 lv] 42)
  have hy4 : Blk (w3.alloc (.cells #[.slice ya yn yc, .bool sh, .int .i64 lv] 42)) w3.heap.size #[.slice ya yn yc, .bool sh, .int .i64 lv] 42 := heap_alloc_new _ _
  have hx4 := (HX2.out.below b3).below b34
  have H14 : Hid (Below _ _ _) := (H12.out.trans (b3.mono H12.out.size)).trans (b34.mono (H12.out.trans (b3.mono H12.out.size)).size)
  have hd4 := d3.below b34
  have E4 := eqRules_same sh lv (by omega) hd4.ents (HI1.out.below H14.out)
  have HD4 : Hid (EntsD _ _ _ _ _) := hd4
  have HY4 : Hid (Blk _ _ _ _) := hy4
  have HX4 : Hid (Blk _ _ _ _) := hx4
  have HB3 := HB2.out.trans (b3.mono HB2.out.size)
  have HB4 : Hid (Below _ _ _) := HB3.trans (b34.mono HB3.size)
  have hT : Hid (w1.heap.size + 1 ≤ w3.heap.size) := by show _ ≤ _; have := b3.size; simp at this; omega
  obtain ⟨p0, p1, p2⟩ := hx4.three
  obtain ⟨q0, q1, q2⟩ := hy4.three
  clear HX2 H12 b3 b34 d3 hd4 hy4 hx4 HB2 HB3
  go_wp2_with fail
  refine E4.mono ?_
  rintro e w5 ⟨rfl, b5⟩
  have HD5 : Hid (EntsD _ _ _ _ _) := HD4.out.below b5
  have HY5 : Hid (Blk _ _ _ _) := HY4.out.below b5
  have HX5 : Hid (Blk _ _ _ _) := HX4.out.below b5
  have H15 : Hid (Below _ _ _) := H14.out.trans (b5.mono H14.out.size)
  have HB5 : Hid (Below _ _ _) := HB4.out.trans (b5.mono HB4.out.size)
  have M5 := markRules_any (m0 := 1) sh lv (by omega) (by omega) (by omega) HR.out HD5.out
  rw [HEN.out] at M5
  clear E4 HD4 HY4 HX4 H14 HB4 b5 p0 p1 p2 q0 q1 q2
  obtain ⟨q0, q1, q2⟩ := HY5.out.three
  go_wp2_with fail
  refine M5.mono ?_
  rintro e w6 ⟨rfl, d6, m6⟩
  have hBT : (w1.alloc (.cells #[.slice xa xn xc, .bool sh, .int .i64 lv] 42)).heap.size ≤ w5.heap.size := by
    have := HY5.out.lt
    have := hT.out
    rw [bsize]; omega
  have b6 := m6.below hBT
  have HY6 : Hid (Blk _ _ _ _) := HY5.out.mid m6 (.inr (Nat.le_refl _))
  have HX6 : Hid (Blk _ _ _ _) := HX5.out.mid m6 (.inl (by simp))
  have H16 : Hid (Below _ _ _) := H15.out.trans (b6.mono (by rw [bsize]; omega))
  have HB6 : Hid (Below _ _ _) := HB5.out.trans (b6.mono (by have := HW1.out; rw [bsize]; omega))
  have HD6 : Hid (EntsD _ _ _ _ _) := d6
  have L6 := heldRules_any (m0 := 1) sh lv (by omega) (by omega) (by omega) HR.out (by rw [HEN.out]; omega) d6.ents
  rw [HEN.out] at L6
  clear M5 HD5 HY5 HX5 H15 HB5 d6 m6 b6 hBT q0 q1 q2
  obtain ⟨q0, q1, q2⟩ := HY6.out.three
  go_wp2_with fail
  refine L6.mono ?_
  rintro e w7 ⟨rfl, b7⟩
  have HY7 : Hid (Blk _ _ _ _) := HY6.out.below b7
  have HX7 : Hid (Blk _ _ _ _) := HX6.out.below b7
  have H17 : Hid (Below _ _ _) := H16.out.trans (b7.mono H16.out.size)
  have HB7 : Hid (Below _ _ _) := HB6.out.trans (b7.mono HB6.out.size)
  have HD7 : Hid (EntsD _ _ _ _ _) := HD6.out.below b7
  clear L6 HD6 HY6 HX6 H16 HB6 b7 q0 q1 q2
  go_wp2_with fail
  refine (HI.out _ HB7.out).mono ?_
  rintro e w8 ⟨v8, rfl, d8, b8⟩
  obtain ⟨za, zn, zc, rfl⟩ := d8.ents.slice
  have b89 := (Below.refl w8.heap.size w8).alloc (Nat.le_refl _) (.cells #[.slice za zn zc, .bool sh, .int .i64 lv] 42)
  have hz9 : Blk (w8.alloc (.cells #[.slice za zn zc, .bool sh, .int .i64 lv] 42)) w8.heap.size #[.slice za zn zc, .bool sh, .int .i64 lv] 42 := heap_alloc_new _ _
  have H18 := H17.out.trans (b8.mono H17.out.size)
  have H19 : Hid (Below _ _ _) := H18.trans (b89.mono H18.size)
  have HB8 := HB7.out.trans (b8.mono HB7.out.size)
  have HB9 : Hid (Below _ _ _) := HB8.trans (b89.mono HB8.size)
  have HY9 : Hid (Blk _ _ _ _) := (HY7.out.below b8).below b89
  have HX9 : Hid (Blk _ _ _ _) := (HX7.out.below b8).below b89
  have HD9 : Hid (EntsD _ _ _ _ _) := (HD7.out.below b8).below b89
  have E9 := eqRules_same sh lv (by omega) (d8.ents.below b89) (HI1.out.below H19.out)
  obtain ⟨p0, p1, p2⟩ := HX9.out.three
  obtain ⟨q0, q1, q2⟩ := hz9.three
  clear HI HX7 HY7 H17 HB7 HD7 H18 HB8 b8 b89 d8 hz9
  go_wp2_with fail
  refine E9.mono ?_
  rintro e w10 ⟨rfl, b10⟩
  have HY10 : Hid (Blk _ _ _ _) := HY9.out.below b10
  have HB10 : Hid (Below _ _ _) := HB9.out.trans (b10.mono HB9.out.size)
  have L10 := heldRules_any (m0 := 1) sh lv (by omega) (by omega) (by omega) HR.out (by rw [HEN.out]; omega) (HD9.out.below b10).ents
  rw [HEN.out] at L10
  clear E9 HY9 HX9 HB9 HD9 H19 b10 p0 p1 p2 q0 q1 q2
  obtain ⟨q0, q1, q2⟩ := HY10.out.three
  go_wp2_with fail
  refine L10.mono ?_
  rintro e w11 ⟨rfl, b11⟩
  clear L10 q0 q1 q2
  go_wp2
  go_ret
  exact ⟨rfl, HB10.out.trans (b11.mono HB10.out.size)⟩
end Go.Proofs.YtcmanfcgoapjjaeDoor

namespace Go.Proofs.YtcmanfcgoapjjaeDoor
open Go.RowKit

def filled (zs : List Int) (n : Nat) : Nat → List Int
  | 0 => List.replicate n 0
  | k + 1 => (filled zs n k).set k (zs[k]?.getD 0)

theorem filled_length (zs : List Int) (n k : Nat) : (filled zs n k).length = n := by
  induction k with
  | zero => simp [filled]
  | succ k ih => simp [filled, ih]

theorem filled_at (zs : List Int) (n k j : Nat) (hj : j < k) (hn : j < n) : (filled zs n k)[j]? = some (zs[j]?.getD 0) := by
  induction k with
  | zero => omega
  | succ k ih =>
    simp only [filled, List.getElem?_set, filled_length]
    by_cases e : k = j
    · subst e; simp [hn]
    · rw [if_neg e]; exact ih (by omega)

theorem filled_all (zs : List Int) (n : Nat) (h : n ≤ zs.length) : filled zs n n = zs.take n := by
  apply List.ext_getElem?
  intro j
  by_cases hj : j < n
  · rw [filled_at zs n n j hj hj]
    rw [List.getElem?_take, if_pos hj, List.getElem?_eq_getElem (by omega)]
    rfl
  · rw [List.getElem?_eq_none (by rw [filled_length]; omega), List.getElem?_eq_none (by simp; omega)]

theorem filled_map (zs : List Int) (n k : Nat) : ((filled zs n k).map (Value.int .i64)).set k (.int .i64 (zs[k]?.getD 0)) = (filled zs n (k + 1)).map (Value.int .i64) := by
  simp [filled, List.map_set]

def ToRel (w : World) (n : Nat) (zs : List Int) (i : Value) (wr : World) : Prop :=
  ∃ k : Nat, k ≤ n ∧ i = .int .i64 k ∧ wr.ownsRow w.heap.size 3 1 (.slice (some ⟨w.heap.size, 0, none⟩) n n) n ((filled zs n k).map (Value.int .i64)) ∧ Below w.heap.size w wr

theorem made_ints (n : Nat) : (madeCells (Value.int .i64 0).cells (n * 1)).toList = (List.replicate n (0 : Int)).map (Value.int .i64) := by
  have h := toList_madeCells_one (Value.int .i64 0) n
  simpa [Value.cells] using h

set_option maxRecDepth 100000 in
set_option maxHeartbeats 1000000 in
theorem toInt_none (w : World) (a : Option Addr) (c : Nat) :
    Calls Tryd.prog 9 #[.slice a 0 c] w fun e w' => ∃ v, e = .returned v ∧ Ints w' w.heap.size v [] ∧ Below w.heap.size w w' := by
  obtain ⟨i0, hi, hz0, hz1, hz2⟩ := info_parts info_int
  go_enter Tryd.func9, Tryd.ntmps9
  go_wp2_with (at_make; refine wpList_make_full _ rfl _ _ 22 rfl w.heap.size 3 i0 (.int .i64 0) 1 Tryd.underlying22 hi hz0 hz1 .i64 .i64 _ _ 0 rfl rfl rfl rfl (by omega) (by unfold maxLen; omega) (Nat.le_refl _) ?_; intro w1 hown hgr)
  have hI : Ints w1 w.heap.size (.slice (some ⟨w.heap.size, 0, none⟩) 0 0) [] := by
    rw [made_ints] at hown
    simpa [Ints] using hown
  have hb1 : Below w.heap.size w w1 := Below.grown (Below.refl _ _) hgr (Nat.le_refl _) (fun j hj => by cases hj)
  clear hown hgr
  go_loopw [4] (fun i wr => i = .int .i64 0 ∧ wr = w1) (fun _ _ => 0)
  case atStart => exact ⟨rfl, rfl⟩
  case round =>
    obtain ⟨rfl, rfl⟩ := hrel
    go_wp2
    go_ret
    exact ⟨_, rfl, hI, hb1⟩

set_option maxRecDepth 100000 in
set_option maxHeartbeats 1000000 in
theorem toInt_row (w : World) (b off n cap : Nat) (zs : List Int) (hn : n ≤ zs.length) (hm : n ≤ 1073741824) (hb : b < w.heap.size)
    (hc : ∀ j, j < n → w.cell? ⟨b, off + j, none⟩ = some (.int .i64 (zs[j]?.getD 0))) :
    Calls Tryd.prog 9 #[.slice (some ⟨b, off, none⟩) n cap] w fun e w' => ∃ v, e = .returned v ∧ Ints w' w.heap.size v (zs.take n) ∧ Below w.heap.size w w' := by
  obtain ⟨i0, hi, hz0, hz1, hz2⟩ := info_parts info_int
  go_enter Tryd.func9, Tryd.ntmps9
  go_wp2_with (at_make; refine wpList_make_full _ rfl _ _ 22 rfl w.heap.size 3 i0 (.int .i64 0) 1 Tryd.underlying22 hi hz0 hz1 .i64 .i64 _ _ n rfl rfl rfl rfl (by rw [hz2]; omega) (by unfold maxLen; omega) (Nat.le_refl _) ?_; intro w1 hown hgr)
  have hI : w1.ownsRow w.heap.size 3 1 (.slice (some ⟨w.heap.size, 0, none⟩) n n) n ((filled zs n 0).map (Value.int .i64)) := by
    rw [made_ints] at hown
    exact hown
  have hb1 : Below w.heap.size w w1 := Below.grown (Below.refl _ _) hgr (Nat.le_refl _) (fun j hj => by cases hj)
  clear hown hgr
  go_loopw [4] (fun i wr => ToRel w n zs i wr) (fun i _ => n - (intOf i).toNat)
  case atStart => exact ⟨0, Nat.zero_le _, rfl, hI, hb1⟩
  case round =>
    clear hI hb1
    obtain ⟨k, hk, rfl, hown, hbw⟩ := hrel
    by_cases hlt : k < n
    · have c0 := (hbw.cell (p := ⟨b, off + k, none⟩) hb).trans (hc k hlt)
      have c1 := hown.cellAt k (by omega)
      have hm2 : ((filled zs n k).map (Value.int .i64))[k]? = some (.int .i64 ((filled zs n k)[k]?.getD 0)) := by
        have := filled_length zs n k
        simp [this, hlt]
      rw [hm2] at c1
      have c2 := hown.frozenAt k
      have hst := hown.stored k (.int .i64 (zs[k]?.getD 0))
      rw [filled_map] at hst
      have HST : Hid _ := hst
      have hkz : k < zs.length := by omega
      obtain ⟨x, hx⟩ : ∃ x, x = zs[k]?.getD 0 := ⟨_, rfl⟩
      rw [← hx] at c0 HST
      have HX : Hid _ := hx
      have HC : Hid _ := hc
      clear hst hm2 hx hc
      go_wp2
      go_roundw
      case rel => exact ⟨k + 1, by omega, by go_num, HST.out.1, Below.grown hbw HST.out.2 hbw.size (fun j hj => by cases hj; exact Nat.le_refl _)⟩
      case measure => simp [intOf]; omega
    · have hkz : k = n := by omega
      subst hkz
      have hf := filled_all zs k hn
      rw [hf] at hown
      have hl : (zs.take k).length = k := by simp; omega
      have hown2 : Ints wr w.heap.size (.slice (some ⟨w.heap.size, 0, none⟩) k k) (zs.take k) := by
        unfold Ints; rw [hl]; exact hown
      clear hf hl hown hc
      go_wp2
      go_ret
      exact ⟨_, rfl, hown2, hbw⟩
end Go.Proofs.YtcmanfcgoapjjaeDoor

namespace Go.Proofs.YtcmanfcgoapjjaeDoor
open Go.RowKit

def IsRow (k : IntKind) (w : World) (a : Option Addr) (len cap : Nat) (zs : List Int) : Prop :=
  (a = none ∧ len = 0 ∧ cap = 0 ∧ zs = []) ∨
  ∃ x, a = some x ∧ len ≤ cap ∧ cap ≤ maxLen ∧ zs.length = cap ∧ (∀ i, i < zs.length → w.cell? (x.add i) = some (.int k (zs.getD i 0))) ∧ ∀ n ∈ zs, (Lit.int k n).wf = true
end Go.Proofs.YtcmanfcgoapjjaeDoor

namespace Go.Proofs.YtcmanfcgoapjjaeDoor
open Go.RowKit

theorem toInt_any (w w1 : World) (a0 : Option Addr) (len cap : Nat) (zs : List Int) (h : IsRow .i64 w a0 len cap zs) (hb : Below w.heap.size w w1) (hm : len ≤ 1048576) :
    Calls Tryd.prog 9 #[.slice a0 len cap] w1 fun e w' => ∃ v, e = .returned v ∧ Ints w' w1.heap.size v (zs.take len) ∧ Below w1.heap.size w1 w' := by
  rcases h with ⟨rfl, rfl, rfl, rfl⟩ | ⟨x, rfl, hl, hc, hz, hcell, _⟩
  · exact toInt_none w1 _ _
  · by_cases h0 : len = 0
    · subst h0
      exact toInt_none w1 _ _
    · obtain ⟨b, off, rfl, hc2⟩ := ints_at hcell (by omega)
      have hlt : b < w.heap.size := by
        have h1 := hc2 0 (by omega)
        apply Classical.byContradiction
        intro hn
        have : w.heap[b]? = none := by simp; omega
        simp [World.cell?, this] at h1
      exact toInt_row w1 b off len cap zs (by omega) (by omega) (Nat.lt_of_lt_of_le hlt hb.size) (fun j hj => by
        rw [hb.cell (p := ⟨b, off + j, none⟩) hlt, hc2 j (by omega)]; rfl)
end Go.Proofs.YtcmanfcgoapjjaeDoor

namespace Go.Proofs.YtcmanfcgoapjjaeDoor
open Go.ChangeShapes Go.WideShapes Go.ChangeAt Go.WideMaps Go.WideElems Go.RowKit

theorem fnExactReadRules_law (a0 : ByteArray) (w : World) (w0 : a0.size ≤ maxLen) (t_marks : Held w 0 marksF) (t_cap : Held w 2 capF) (t_oth : Held w 3 othF) :
    Calls Tryd.prog 7 #[.string a0] w fun e w' => e = .returned (.bool true) ∧ Below w.heap.size w w' :=
  readRules_walk w a0 w0 fun u hu hs => implRead_any a0 u (Tabs3.below (w := w) ⟨t_marks, t_cap, t_oth⟩ hu) hs

theorem own_fnExactReadRules : ownKnob Tryd.prog.godebug = none := by kernel_rfl
theorem laidOut_fnExactReadRules : laidOutB Tryd.prog = true := by kernel_rfl

open Go.ChangeMaps (open_string shut_string) in
set_option linter.unusedVariables false in
set_option maxRecDepth 100000 in
theorem fnExactReadRules_contract (H : Type) (enc : TypeId × Value → H) (W : World) (base : Nat) (args : Array Value) (ds gs : List (DataW H)) (before : List MemPlace)
    (hval0 : ∀ (j : Nat) t v, Tryd.f7.params[j]? = some t → args[j]? = some v → Value.okWide Tryd.prog W .any base t v)
    (hW : DataW.Whole enc Tryd.prog Tryd.f7.params.toList Rows.fnExactReadRulesSpec.vars false W args.toList ds gs before) (hL : laidMetH Tryd.prog Rows.fnExactReadRulesRow.laid W) :
    Calls Tryd.prog 7 args W fun e W' => ∃ v, e = .returned v ∧ Rows.fnExactReadRulesSpec.post enc Tryd.prog Tryd.f7 false true false false W args v W' := by
  have hval : ∀ (j : Nat) t v, Tryd.f7.params[j]? = some t → args[j]? = some v → Value.okWide Tryd.prog W .any base t v := hval0
  have hW' := hW
  obtain ⟨p, q, hA0, hV, rfl, hfz, hnd⟩ := hW
  have hA : DataW.TrodAll enc Tryd.prog W 0 (fun _ => true) true Tryd.f7.params.toList args.toList ds p := hA0
  rw [Tryd.params7] at hA hval
  obtain ⟨v0, vs0, d0, ds0, p0, q0, hargs, rfl, rfl, h0, r0⟩ := trodAll_cons hA
  obtain ⟨rfl, rfl, rfl⟩ := trodAll_nil r0
  obtain rfl : args = #[v0] := by cases args; simp_all
  obtain ⟨g1, g2, g3, rfl⟩ : ∃ g1 g2 g3, gs = [g1, g2, g3] := by
    have hg := trodVars_len hV
    match gs, hg with
    | [x1, x2, x3], _ => exact ⟨x1, x2, x3, rfl⟩
  obtain ⟨a0, rfl, rfl, rfl, w0⟩ := open_string Tryd.underlying9 (hval 0 9 v0 rfl rfl) h0
  have hL2 : laidMet Tryd.prog Rows.fnExactReadRulesRow.laid W := hL
  have t_marks := marks_held (laidMet.tail hL2)
  have t_cap := cap_held (laidMet.tail (laidMet.tail hL2))
  have t_oth := oth_held (laidMet.tail (laidMet.tail (laidMet.tail hL2)))
  clear hA0 hval0
  refine (fnExactReadRules_law a0 W w0 t_marks t_cap t_oth).mono fun e W' ⟨he, bel⟩ => ?_
  subst he
  exact ⟨_, rfl, _, _, _, [], _, q, hW', trodAll_mk1 (shut_bool Tryd.underlying4 _), (trodAll_cons_mk (shut_string Tryd.underlying9 w0) trodAll_mk0), bel.trodVars laidOut_fnExactReadRules (by kernel_rfl) hV, bel.frame _, fun h => by cases h⟩

set_option maxRecDepth 100000 in
theorem fnExactReadRules_lifted (os : Os) (started : os.Started) (H : Type) (enc : TypeId × Value → H) :
    ReturnsInHanded {} Tryd.checked os 7 .any (fun w args => (Rows.fnExactReadRulesSpec.pre enc Tryd.prog Tryd.f7 [] false w args ∧ laidMetH Tryd.prog Rows.fnExactReadRulesRow.laid w) ∧ sizedMet enc Tryd.prog Tryd.f7 (OpenSpec.ofChange Rows.fnExactReadRulesSpec) false w args)
      (Rows.fnExactReadRulesSpec.post enc Tryd.prog Tryd.f7 false true false false) := by
  refine returnsInHanded_of_change_and (C := Tryd.checked) (X := fun w _ => laidMetH Tryd.prog Rows.fnExactReadRulesRow.laid w) (fun _ _ _ hh h => h.of_heap hh) own_fnExactReadRules started (by kernel_rfl) Tryd.func7
    (ChangeSpec.witness_shaped (enc := enc) (C := Tryd.checked) (os := os) (X := fun w _ => laidMetH Tryd.prog Rows.fnExactReadRulesRow.laid w) false (World.laidAll Tryd.prog os Rows.fnExactReadRulesRow.laid) #[.string ByteArray.empty] 8 (World.laidAll_os _ _ _) (World.shaped_of_ZipB (by kernel_rfl) (by kernel_rfl)) (by kernel_rfl) (by kernel_rfl) (by kernel_rfl) (by rw [MakeChecks.laidMetH_plain _ _ _ (by kernel_rfl)]; exact laidMet_laidAll _ (by kernel_rfl) (by kernel_rfl))) ?_
  intro W base args ds gs before hval0 hW _ _ hL _
  exact fnExactReadRules_contract H enc W base args ds gs before hval0 hW hL

theorem fnExactReadRules_said : Rows.FnExactReadRulesSaid :=
  OpenClaim.holds_of_wide 7 Tryd.f7 rfl rfl rfl rfl rfl rfl rfl ⟨rfl, rfl, rfl, rfl, rfl⟩ rfl rfl rfl rfl rfl (by kernel_rfl) Tryd.func7 (by kernel_rfl)
    (of_decide_eq_true (by kernel_rfl)) (by unfold Func.isWrapper; first | (rw [if_pos (by decide +kernel)]; kernel_rfl) | (rw [if_neg (by decide +kernel)]; exact ⟨rfl, rfl⟩))
    (fun os started H enc _ => fnExactReadRules_lifted os started H enc)

theorem fnExactReadRules_plain (f : FuncId) (fn : Func) (hf : Tryd.pinned.checked.prog.funcNamed "loop.example/g00158/laws.FnExactReadRules" = some f) (hfn : Tryd.pinned.checked.prog.funcs[f]? = some fn) :
    ∀ (j : Nat) t, fn.params[j]? = some t → Tryd.pinned.checked.prog.wantsStandIn t = false := by
  obtain rfl : f = 7 := Option.some.inj ((show Tryd.prog.funcNamed "loop.example/g00158/laws.FnExactReadRules" = some 7 by kernel_rfl).symm.trans hf) |>.symm
  obtain rfl : fn = Tryd.f7 := (Option.some.inj (Tryd.func7.symm.trans hfn)).symm
  intro j t ht
  rw [Tryd.params7] at ht
  obtain rfl : t = 9 := by simpa using Array.mem_of_getElem? ht
  exact (show Tryd.prog.wantsStandIn 9 = false by kernel_rfl)

theorem fnExactReadRules_card : Rows.FnExactReadRulesCardSaid :=
  Claim7.holds_tied_plain_at .later [] _ _ _ _ fnExactReadRules_said (fun _ h => by cases h) (by kernel_rfl) (fun _ h => by cases h) fnExactReadRules_row_tie rfl ⟨rfl, rfl⟩ (by kernel_rfl) rfl (fun f fn hf hfn => ⟨by kernel_rfl, fnExactReadRules_plain f fn hf hfn⟩) (by kernel_rfl)
#print axioms fnExactReadRules_card
end Go.Proofs.YtcmanfcgoapjjaeDoor
