/- Texts of mine laid together: IGood3, IElems, IElems2, IKey, IFirsts, IntApp, ITakeS, IAlone, IGrow0, IStr. -/
import Derived.Test.YtinjldagfhbioaaGreatDoorMD4
import Derived.Deep.RegionHeld3
import Derived.Test.YtinjldagfhbioaaGreatDoorMD2
import Derived.Test.YtinjldagfhbioaaGreatDoorNorm3
import Derived.Test.YtinjldagfhbioaaGreatDoorMD1
import Derived.Test.YtinjldagfhbioaaGreatDoorMD3
import Derived.Deep.RegionLaw
import Derived.Deep.MidRow
import Derived.Test.YtinjldagfhbioaaGreatDoorPFind2
import Derived.Maps.AppendAt
import Derived.ArgAppend
namespace Go.Proofs.YtinjldagfhbioaaGreatDoor
open Go.RowKit

/-- What stands in the region that looks for an entry with the same runes ahead. -/
def Gin (w0 : World) (b1 b4 : Nat) (v x : Value) (u : World) : Prop := u.cell? ⟨b1, 0, none⟩ = some v ∧ u.cell? ⟨b4, 0, none⟩ = some x ∧ Below w0.heap.size w0 u
theorem Gin.keep {w0 w1 w2 : World} {b1 b4 : Nat} {v x : Value} (h1 : b1 < w0.heap.size) (h4 : b4 < w0.heap.size) (hb : Below w1.heap.size w1 w2) (h : Gin w0 b1 b4 v x w1) : Gin w0 b1 b4 v x w2 := by
  obtain ⟨a, b, c⟩ := h
  exact ⟨by rw [hb.cell (Nat.lt_of_lt_of_le h1 c.size)]; exact a, by rw [hb.cell (Nat.lt_of_lt_of_le h4 c.size)]; exact b, c.trans (hb.mono c.size)⟩

theorem Gin.set4 {w0 u : World} {b1 b4 : Nat} {v x : Value} (h1 : b1 < w0.heap.size) (h4 : b4 < w0.heap.size) (a b c d : Value) (h : Gin w0 b1 b4 v x u) : Gin w0 b1 b4 v x ((((u.setCell ⟨w0.heap.size, 0, none⟩ a).setCell ⟨w0.heap.size, 1, none⟩ b).setCell ⟨w0.heap.size, 2, none⟩ c).setCell ⟨w0.heap.size, 3, none⟩ d) := by
  obtain ⟨p, q, r⟩ := h
  have n1 : ∀ (m : World) (o : Nat) (y : Value), (m.setCell ⟨w0.heap.size, o, none⟩ y).cell? ⟨b1, 0, none⟩ = m.cell? ⟨b1, 0, none⟩ := fun m o y => World.cell?_setCell_other _ _ _ _ (fun e => by injection e; omega)
  have n4 : ∀ (m : World) (o : Nat) (y : Value), (m.setCell ⟨w0.heap.size, o, none⟩ y).cell? ⟨b4, 0, none⟩ = m.cell? ⟨b4, 0, none⟩ := fun m o y => World.cell?_setCell_other _ _ _ _ (fun e => by injection e; omega)
  exact ⟨by rw [n1, n1, n1, n1]; exact p, by rw [n4, n4, n4, n4]; exact q, (((r.setCell (Nat.le_refl _) _).setCell (Nat.le_refl _) _).setCell (Nat.le_refl _) _).setCell (Nat.le_refl _) _⟩

theorem entry_keep {u : World} {B B' n : Nat} {v vl : Value} {es : List Ent} {l : List Int} (hE : Ents u B v es) (hL : Ints u B' vl l) (hn : es.length ≤ 1048576) (hl : l.length ≤ 1048576) (hr : ∀ e ∈ es, e.runes.length ≤ 1048576) :
    Calls Tryz.prog 88 #[v, vl] u fun e w' => e = .returned (elRes (entOf es l)) ∧ Below u.heap.size u w' ∧ (∀ j, n < u.heap.size → w'.cell? ⟨n, j, none⟩ = u.cell? ⟨n, j, none⟩) ∧ ∀ j, n < u.heap.size → w'.frozen? ⟨n, j, none⟩ = u.frozen? ⟨n, j, none⟩ :=
  (entry_any hE hL hn hl hr).mono fun _ _ h => ⟨h.1, h.2, fun _ hj => h.2.cell hj, fun j hj => h.2.frozen (p := ⟨n, j, none⟩) hj⟩

theorem entOk_split (es : List Ent) (i : Nat) (e : Ent) : entOk es i e = (runesOk e.runes && (decide (atE es e.runes = (i : Int)) && elOk e.el)) := rfl

set_option maxRecDepth 100000 in
set_option maxHeartbeats 2000000 in
theorem good3i_long (w : World) (a : Option Addr) (n c : Nat) (sh : Bool) (lv : Int) (h : 40 < n) : Calls Tryz.prog 67 #[.agg #[.slice a n c, .bool sh, .int .i64 lv]] w fun e w' => e = .returned (.bool false) ∧ Below w.heap.size w w' := by
  have h2 : (40 : Int) < (n : Int) := by omega
  go_enter Tryz.func67, Tryz.ntmps67
  go_wp2
  go_ret
  exact ⟨rfl, (Below.refl _ _).alloc (Nat.le_refl _) _⟩

set_option maxRecDepth 100000 in
set_option maxHeartbeats 2000000 in
theorem good3i_lev (w : World) (a : Option Addr) (n c : Nat) (sh : Bool) (lv : Int) (h : n ≤ 40) (hl : ¬ (1 ≤ lv ∧ lv ≤ 4)) : Calls Tryz.prog 67 #[.agg #[.slice a n c, .bool sh, .int .i64 lv]] w fun e w' => e = .returned (.bool false) ∧ Below w.heap.size w w' := by
  have h2 : ¬ (40 : Int) < (n : Int) := by omega
  by_cases h3 : lv < 1
  · clear hl
    go_enter Tryz.func67, Tryz.ntmps67
    go_wp2
    go_ret
    exact ⟨rfl, (Below.refl _ _).alloc (Nat.le_refl _) _⟩
  · have h4 : 4 < lv := by omega
    clear hl
    go_enter Tryz.func67, Tryz.ntmps67
    go_wp2
    go_ret
    exact ⟨rfl, (Below.refl _ _).alloc (Nat.le_refl _) _⟩

set_option maxRecDepth 100000 in
set_option maxHeartbeats 2000000 in
theorem good3i_nil (w : World) (sh : Bool) (lv : Int) (hl : 1 ≤ lv ∧ lv ≤ 4) : Calls Tryz.prog 67 #[.agg #[.slice none 0 0, .bool sh, .int .i64 lv]] w fun e w' => e = .returned (.bool true) ∧ Below w.heap.size w w' := by
  obtain ⟨h3, h4⟩ := hl
  go_enter Tryz.func67, Tryz.ntmps67
  go_wp2
  go_loop [24] (fun i => i = .int .i64 0) (fun _ => 0)
  case atStart => rfl
  case round =>
    subst hrel
    go_wp2
    go_ret
    exact ⟨rfl, (Below.refl _ _).alloc (Nat.le_refl _) _⟩

/-- The block of an entry that is looked at. -/
def Eb (u : World) (b : Nat) (x : Value) (e : El) : Prop := u.heap[b]? = some (.cells #[x, .int .i64 e.first, .int .i64 e.second, .int .i64 e.third, .bool e.varies] 74)
theorem Eb.facts {u : World} {b : Nat} {x : Value} {e : El} (h : Eb u b x e) : b < u.heap.size ∧ u.cell? ⟨b, 0, none⟩ = some x ∧ u.cell? ⟨b, 1, none⟩ = some (.int .i64 e.first) ∧ u.cell? ⟨b, 2, none⟩ = some (.int .i64 e.second) ∧ u.cell? ⟨b, 3, none⟩ = some (.int .i64 e.third) ∧ u.cell? ⟨b, 4, none⟩ = some (.bool e.varies) :=
  ⟨(Array.getElem?_eq_some_iff.1 h).1, cell_of_row _ _ 0 _ _ _ h, cell_of_row _ _ 1 _ _ _ h, cell_of_row _ _ 2 _ _ _ h, cell_of_row _ _ 3 _ _ _ h, cell_of_row _ _ 4 _ _ _ h⟩
theorem Eb.below {u u' : World} {b : Nat} {x : Value} {e : El} (h : Eb u b x e) (hb : Below u.heap.size u u') : Eb u' b x e := (hb.block _ h.facts.1).trans h

set_option maxRecDepth 100000 in
set_option maxHeartbeats 8000000 in
theorem good3i_row (w : World) (B g cap : Nat) (es : List Ent) (sh : Bool) (lv : Int) (hE : Ents w B (.slice (some ⟨g, 0, none⟩) es.length cap) es) (hn : es.length ≤ 40) (hl : 1 ≤ lv ∧ lv ≤ 4) (hr : ∀ e ∈ es, e.runes.length ≤ 1048576) (ht : Tabs3 w) :
    Calls Tryz.prog 67 #[.agg #[.slice (some ⟨g, 0, none⟩) es.length cap, .bool sh, .int .i64 lv]] w fun e w' => e = .returned (.bool (rulesOk es lv)) ∧ Below w.heap.size w w' := by
  obtain ⟨hl1, hl2⟩ := hl
  have hn2 : ¬ (40 : Int) < (es.length : Int) := by omega
  have HT : Hid (Tabs3 w) := ht
  have hcap : es.length ≤ cap ∧ cap ≤ maxLen := by
    rcases hE.form with ⟨h, _⟩ | ⟨_, _, h, h2, h3, _, _⟩
    · cases h
    · cases h; exact ⟨h2, h3⟩
  unfold maxLen at hcap
  clear ht
  go_enter Tryz.func67, Tryz.ntmps67
  go_wp2
  go_loopw [24] (fun i wr => GRel w (.slice (some ⟨g, 0, none⟩) es.length cap) sh lv es i wr) (fun i _ => es.length - (intOf i).toNat)
  case atStart => exact ⟨0, Nat.zero_le _, rfl, fun i e hi => by omega, ⟨by simp, by simp [World.cell?_alloc_new], by simp [World.cell?_alloc_new], by simp [World.cell?_alloc_new]⟩, (Below.refl _ _).alloc (Nat.le_refl _) _⟩
  case round =>
    obtain ⟨k, hk, rfl, HN0, hbx, hb⟩ := hrel
    have HN : Hid (EntsTo es k) := HN0
    clear HN0
    by_cases hlt : k < es.length
    · obtain ⟨e, he⟩ : ∃ e, es[k]? = some e := ⟨_, List.getElem?_eq_getElem hlt⟩
      obtain ⟨x, hI, a0, a1, a2, a3, a4⟩ := (hE.below hb).cells k e he
      obtain ⟨xa, xn, xc, rfl⟩ : ∃ xa xn xc, x = .slice xa xn xc := by
        rcases hI.form with ⟨rfl, _⟩ | ⟨_, _, rfl, _, _⟩
        · exact ⟨_, _, _, rfl⟩
        · exact ⟨_, _, _, rfl⟩
      have hk8 : (k : Int) < (es.length : Int) := by omega
      have hrl := hr e (List.mem_of_getElem? he)
      have hbr := (Below.refl wr.heap.size wr).alloc (Nat.le_refl _) (.cells #[.slice xa xn xc, .int .i64 e.el.first, .int .i64 e.el.second, .int .i64 e.el.third, .bool e.el.varies] 74)
      have hba := hb.trans (hbr.mono hb.size)
      have hE2 := (hE.below hb).below hbr
      have JN := joined_any hrl (hI.below hbr) ((HT.out.below hb).below hbr)
      have HE : Hid _ := he
      have HI2 : Hid (Ints _ _ _ _) := hI.below hbr
      have HE2 : Hid (Ents _ _ _ _) := hE2
      have HB : Hid (Below _ _ _) := hba
      have HX : Hid (Box3 _ _ _ _ _) := hbx.below hbr
      have HG : Hid (Eb _ _ _ _) := show Eb (wr.alloc _) wr.heap.size (.slice xa xn xc) e.el from heap_alloc_new _ _
      clear he hI hE2 hba hbr hbx hb HT
      go_wp2_with fail
      refine JN.mono ?_
      rintro e' w2 ⟨rfl, b2⟩
      have c2 : Hid (Below _ _ _) := HB.out.trans (b2.mono HB.out.size)
      have g2 : Hid (Eb _ _ _ _) := HG.out.below b2
      have x2 : Hid (Box3 _ _ _ _ _) := HX.out.below b2
      have i2 : Hid (Ints _ _ _ _) := HI2.out.below b2
      have ee2 : Hid (Ents _ _ _ _) := HE2.out.below b2
      clear JN a0 a1 a2 a3 a4 HB HX HG HI2 HE2 b2
      cases r1 : runesOk e.runes
      · have HF : Hid (rulesOk es lv = false) := rulesOk_ent HE.out (by rw [entOk_split, r1, Bool.false_and])
        clear HN HE hE hr
        go_wp2
        go_ret
        rw [HF.out]
        exact ⟨rfl, c2.out⟩
      · obtain ⟨_, d0, d1, d2, d3, d4⟩ := g2.out.facts
        have GE := fun w => goodElem_any e.el w
        go_wp2_with fail
        refine (GE _).mono ?_
        rintro e' w3 ⟨rfl, b3⟩
        have c3 : Hid (Below _ _ _) := c2.out.trans (b3.mono c2.out.size)
        have g3 : Hid (Eb _ _ _ _) := g2.out.below b3
        have x3 : Hid (Box3 _ _ _ _ _) := x2.out.below b3
        have i3 : Hid (Ints _ _ _ _) := i2.out.below b3
        have ee3 : Hid (Ents _ _ _ _) := ee2.out.below b3
        clear GE d0 d1 d2 d3 d4 c2 g2 x2 i2 ee2 b3
        cases r2 : elOk e.el
        · have HF : Hid (rulesOk es lv = false) := rulesOk_ent HE.out (by rw [entOk_split, r2]; simp)
          clear HN HE hE hr
          go_wp2
          go_ret
          rw [HF.out]
          exact ⟨rfl, c3.out⟩
        · have hk9 : (k : Int) ≤ (cap : Int) := by omega
          have hg4 := g3.out.facts.1
          have hg1 := x3.out.1
          have hS : w3.cell? ⟨w.heap.size, 0, none⟩ = some (.slice (some ⟨g, 0, none⟩) es.length cap) ∧ w3.cell? ⟨wr.heap.size, 0, none⟩ = some (.slice xa xn xc) ∧ Below w3.heap.size w3 w3 := ⟨x3.out.2.1, g3.out.facts.2.1, Below.refl _ _⟩
          have hS2 := Gin.keep hg1 hg4 ((Below.refl w3.heap.size w3).drew) hS
          have K := fun (u1 u2 : World) (hb : Below u1.heap.size u1 u2) (hu : u1.cell? ⟨w.heap.size, 0, none⟩ = some (.slice (some ⟨g, 0, none⟩) es.length cap) ∧ u1.cell? ⟨wr.heap.size, 0, none⟩ = some (.slice xa xn xc) ∧ Below w3.heap.size w3 u1) => Gin.keep hg1 hg4 hb hu
          have hS3 := Gin.keep hg1 hg4 (((Below.refl w3.heap.size w3).alloc (Nat.le_refl _) (.cells #[.int .i64 0, .int .i64 0, .int .i64 0, .bool false] 72)).drew) hS
          have K4 := fun (u : World) (a b c d : Value) (hu : u.cell? ⟨w.heap.size, 0, none⟩ = some (.slice (some ⟨g, 0, none⟩) es.length cap) ∧ u.cell? ⟨wr.heap.size, 0, none⟩ = some (.slice xa xn xc) ∧ Below w3.heap.size w3 u) => Gin.set4 hg1 hg4 a b c d hu
          unfold Gin at hS2 hS3 K K4
          have EN := fun (u : World) (hu : u.cell? ⟨w.heap.size, 0, none⟩ = some (.slice (some ⟨g, 0, none⟩) es.length cap) ∧ u.cell? ⟨wr.heap.size, 0, none⟩ = some (.slice xa xn xc) ∧ Below w3.heap.size w3 u) => entry_keep (n := w3.heap.size) ((ee3.out.below hu.2.2).take k hk) (i3.out.below hu.2.2) (by rw [List.length_take]; omega) hrl (fun x hx => hr x (List.mem_of_mem_take hx))
          have HW : Hid (entOf (es.take k) e.runes = none ↔ atE es e.runes = (k : Int)) := atE_here HE.out
          obtain ⟨o, ho⟩ : ∃ o, entOf (es.take k) e.runes = o := ⟨_, rfl⟩
          rw [ho] at EN
          unfold elRes elV at EN
          have HO : Hid (entOf (es.take k) e.runes = o) := ho
          clear ho
          have HXE : Hid (o.isSome = false → EntsTo es (k + 1)) := fun c => HN.out.succ HE.out (by rw [entOk_split, r1, r2, decide_eq_true (HW.out.1 (by rw [HO.out]; simpa using c))]; rfl)
          have HXF : Hid (o.isSome = true → rulesOk es lv = false) := fun c => rulesOk_ent HE.out (by
            have : ¬ atE es e.runes = (k : Int) := fun d => by rw [HW.out.2 d] at HO; have := HO.out; rw [← this] at c; simp at c
            rw [entOk_split, decide_eq_false this]; simp)
          clear HW HO HE HN r1 r2 ee3 i3
          generalize elOf o = x0 at *
          generalize o.isSome = ob at *
          go_wp2_with fail
          go_region_held3 (fun u => u.cell? ⟨w.heap.size, 0, none⟩ = some (.slice (some ⟨g, 0, none⟩) es.length cap) ∧ u.cell? ⟨wr.heap.size, 0, none⟩ = some (.slice xa xn xc) ∧ Below w3.heap.size w3 u)
            (first
              | with_reducible exact hS2
              | with_reducible exact hS3
              | with_reducible exact K _ _ (by assumption) (by assumption)
              | (with_reducible refine K4 _ _ _ _ _ ?_; first | assumption | exact K _ _ (by assumption) (by assumption))
              | (with_reducible refine K _ _ ((Below.refl _ _).alloc (Nat.le_refl _) _) ?_; first | assumption | exact hS2 | exact K _ _ (by assumption) (by assumption)))
            ((go_at_call 88; refine (EN _ (by assumption)).mono ?_; rintro e' w' ⟨rfl, hbw, hcw, hfw⟩))
          all_goals
            clear hS hS2 hS3 K K4 EN
            obtain ⟨_, _, hE9⟩ := (show _ ∧ _ ∧ Below w3.heap.size w3 _ by assumption)
            have x4 : Hid (Box3 _ _ _ _ _) := x3.out.below hE9
            have c4 : Hid (Below _ _ _) := c3.out.trans (hE9.mono c3.out.size)
            cases ob
            · have HN2 : Hid (EntsTo es (k + 1)) := HXE.out rfl
              clear HXE HXF hE9 hr hE
              go_wp2
              exact ⟨⟨k + 1, by omega, by go_num, HN2.out, x4.out, c4.out⟩, by simp [intOf]; omega⟩
            · have HF : Hid (rulesOk es lv = false) := HXF.out rfl
              clear HXE HXF hE9 hr hE
              go_wp2
              go_ret
              rw [HF.out]
              exact ⟨rfl, c4.out⟩
    · have HA : Hid (rulesOk es lv = true) := rulesOk_all HN.out (by omega) hn ⟨hl1, hl2⟩
      clear HN hE hr
      go_wp2
      go_ret
      rw [HA.out]
      exact ⟨rfl, hb⟩

theorem implGood3_any {w : World} {B : Nat} {v : Value} {es : List Ent} {sh : Bool} {lv : Int} (hE : Ents w B v es) (hr : ∀ e ∈ es, e.runes.length ≤ 1048576) (ht : Tabs3 w) :
    Calls Tryz.prog 67 #[.agg #[v, .bool sh, .int .i64 lv]] w fun e w' => e = .returned (.bool (rulesOk es lv)) ∧ Below w.heap.size w w' := by
  obtain ⟨a, c, rfl⟩ : ∃ a c, v = .slice a es.length c := by
    rcases hE.form with ⟨rfl, rfl⟩ | ⟨g, cap, rfl, _, _, _, _⟩
    · exact ⟨_, _, rfl⟩
    · exact ⟨_, _, rfl⟩
  by_cases h1 : es.length ≤ 40
  · by_cases h2 : 1 ≤ lv ∧ lv ≤ 4
    · rcases hE.form with ⟨h, rfl⟩ | ⟨g, cap, h, _, _, _, _⟩
      · rw [h]
        have e0 : rulesOk [] lv = true := decide_eq_true ⟨by simp, h2, rfl⟩
        rw [e0]
        exact good3i_nil w sh lv h2
      · rw [h] at hE ⊢
        exact good3i_row w B g cap es sh lv hE h1 h2 hr ht
    · rw [rulesOk_head (fun h => h2 h.2)]
      exact good3i_lev w a es.length c sh lv h1 h2
  · rw [rulesOk_head (fun h => h1 h.1)]
    exact good3i_long w a es.length c sh lv (by omega)
end Go.Proofs.YtinjldagfhbioaaGreatDoor

namespace Go.Proofs.YtinjldagfhbioaaGreatDoor
open Go.RowKit

theorem elsOf_some {es : List Ent} {run : List Int} {e : El} (h : entOf es run = some e) : elsOf es run = [e] := by unfold elsOf; rw [h]
theorem elsOf_none {es : List Ent} {run : List Int} (h : entOf es run = none) : elsOf es run = base (at0 run 0) := by unfold elsOf; rw [h]

set_option maxRecDepth 100000 in
set_option maxHeartbeats 4000000 in
theorem elemsOf_any {w : World} {B B' : Nat} {ve v : Value} {es : List Ent} {run : List Int} (hE : Ents w B ve es) (hn : es.length ≤ 1048576) (hr : ∀ e ∈ es, e.runes.length ≤ 1048576) (ht : Tabs3 w) (hI : Ints w B' v run) (h1 : 1 ≤ run.length) (hg : ∀ x ∈ run, goodB x = true) :
    Calls Tryz.prog 79 #[ve, v] w fun e w' => ∃ v', e = .returned v' ∧ Elems w' w.heap.size v' (elsOf es run) ∧ Below w.heap.size w w' := by
  have EN := entryAt_any hE hI.rowAt hn hr
  obtain ⟨x, hx⟩ : ∃ x, run[0]? = some x := ⟨_, List.getElem?_eq_getElem (by omega)⟩
  have hx0 : at0 run 0 = x := by unfold at0; rw [hx]; rfl
  have hgx := hg x (List.mem_of_getElem? hx)
  obtain ⟨q0, q1, q2⟩ := goodB_true hgx
  obtain ⟨gv, cv, rfl, _, hgv, hcv⟩ := ints_form1 hI h1
  have c0 : w.cell? ⟨gv, 0, none⟩ = some (.int .i64 x) := hcv 0 x hx
  have hl8 : (0 : Int) < (run.length : Int) := by omega
  have W := fun (u : World) (hu : Below w.heap.size w u) => weight_any x q0 q1 (by omega) u ((ht.below hu).1)
  obtain ⟨va, vn, vc, rfl⟩ : ∃ a n c, ve = .slice a n c := by
    rcases hE.form with ⟨rfl, _⟩ | ⟨_, _, rfl, _, _, _, _⟩
    · exact ⟨_, _, _, rfl⟩
    · exact ⟨_, _, _, rfl⟩
  clear hE hI hg hgx hcv ht
  cases ho : entOf es run with
  | some e =>
    rw [ho] at EN
    rw [elsOf_some ho]
    unfold elRes elV elOf at EN
    simp only [Option.getD_some, Option.isSome_some] at EN
    clear ho W
    go_enter Tryz.func79, Tryz.ntmps79
    go_wp2_with fail
    refine EN.mono ?_
    rintro x w2 ⟨rfl, b2⟩
    clear EN c0
    go_wp2
    go_ret
    exact ⟨_, rfl, elems_block [e] rfl rfl (heap_alloc2_new w2 _ _) (by have := b2.size; omega) (by unfold maxLen; omega), (b2.alloc b2.size _).alloc (b2.alloc b2.size _).size _⟩
  | none =>
    rw [ho] at EN
    rw [elsOf_none ho, hx0]
    unfold elRes elV elOf at EN
    simp only [Option.getD_none, Option.isSome_none] at EN
    clear ho
    rcases base_cases x with hb | ⟨e, hb⟩ | ⟨e, f, hb⟩
    · rw [hb] at W ⊢
      unfold wtV at W
      have mt : ∀ (k : Nat) (w : World), (method (k + 1) 143 (.agg #[]) "loop.example/g00158/impl.elems").run Tryz.prog w = .ok (132, .agg #[]) w := fun _ _ => by kernel_rfl
      clear hb
      go_enter Tryz.func79, Tryz.ntmps79
      go_wp2_with fail
      refine EN.mono ?_
      rintro x w2 ⟨rfl, b2⟩
      clear EN
      have b3 : Below w.heap.size w (w2.alloc (.cells #[.int .i64 0, .int .i64 0, .int .i64 0, .bool false] 72)) := b2.alloc b2.size _
      have W1 := W _ b3
      have c2 : w2.cell? ⟨gv, 0, none⟩ = some (.int .i64 _) := (b2.cell hgv).trans c0
      have hgv2 : gv < w2.heap.size := Nat.lt_of_lt_of_le hgv b2.size
      clear W c0
      go_wp2_with fail
      refine W1.mono ?_
      rintro x w4 ⟨rfl, b4⟩
      have b5 := b3.trans (b4.mono b3.size)
      clear W1 b4 b3
      go_wp2
      go_ret
      exact ⟨_, rfl, ⟨rfl, .inl ⟨rfl, rfl⟩⟩, b5.alloc b5.size _⟩
    · rw [hb] at W ⊢
      unfold wtV at W
      have mt : ∀ (k : Nat) (w : World), (method (k + 1) 146 (.agg #[.int .i64 e.first, .int .i64 e.second, .int .i64 e.third, .bool e.varies]) "loop.example/g00158/impl.elems").run Tryz.prog w = .ok (133, .agg #[.int .i64 e.first, .int .i64 e.second, .int .i64 e.third, .bool e.varies]) w := fun _ _ => by kernel_rfl
      clear hb
      go_enter Tryz.func79, Tryz.ntmps79
      go_wp2_with fail
      refine EN.mono ?_
      rintro x w2 ⟨rfl, b2⟩
      clear EN
      have b3 : Below w.heap.size w (w2.alloc (.cells #[.int .i64 0, .int .i64 0, .int .i64 0, .bool false] 72)) := b2.alloc b2.size _
      have W1 := W _ b3
      have c2 : w2.cell? ⟨gv, 0, none⟩ = some (.int .i64 _) := (b2.cell hgv).trans c0
      have hgv2 : gv < w2.heap.size := Nat.lt_of_lt_of_le hgv b2.size
      clear W c0
      go_wp2_with fail
      refine W1.mono ?_
      rintro x w4 ⟨rfl, b4⟩
      have b5 := b3.trans (b4.mono b3.size)
      clear W1 b4 b3
      go_wp2
      go_ret
      exact ⟨_, rfl, elems_block [e] rfl rfl (heap_alloc2_new w4 _ _) (by have := b5.size; omega) (by unfold maxLen; omega), (b5.alloc b5.size _).alloc (b5.alloc b5.size _).size _⟩
    · rw [hb] at W ⊢
      unfold wtV at W
      have mt : ∀ (k : Nat) (w : World), (method (k + 1) 149 (.agg #[.int .i64 e.first, .int .i64 e.second, .int .i64 e.third, .bool e.varies, .int .i64 f.first, .int .i64 f.second, .int .i64 f.third, .bool f.varies]) "loop.example/g00158/impl.elems").run Tryz.prog w = .ok (134, .agg #[.int .i64 e.first, .int .i64 e.second, .int .i64 e.third, .bool e.varies, .int .i64 f.first, .int .i64 f.second, .int .i64 f.third, .bool f.varies]) w := fun _ _ => by kernel_rfl
      clear hb
      go_enter Tryz.func79, Tryz.ntmps79
      go_wp2_with fail
      refine EN.mono ?_
      rintro x w2 ⟨rfl, b2⟩
      clear EN
      have b3 : Below w.heap.size w (w2.alloc (.cells #[.int .i64 0, .int .i64 0, .int .i64 0, .bool false] 72)) := b2.alloc b2.size _
      have W1 := W _ b3
      have c2 : w2.cell? ⟨gv, 0, none⟩ = some (.int .i64 _) := (b2.cell hgv).trans c0
      have hgv2 : gv < w2.heap.size := Nat.lt_of_lt_of_le hgv b2.size
      clear W c0
      go_wp2_with fail
      refine W1.mono ?_
      rintro x w4 ⟨rfl, b4⟩
      have b5 := b3.trans (b4.mono b3.size)
      clear W1 b4 b3
      go_wp2
      go_ret
      exact ⟨_, rfl, elems_block [e, f] rfl rfl (heap_alloc2_new w4 _ _) (by have := b5.size; omega) (by unfold maxLen; omega), (b5.alloc b5.size _).alloc (b5.alloc b5.size _).size _⟩
end Go.Proofs.YtinjldagfhbioaaGreatDoor

namespace Go.Proofs.YtinjldagfhbioaaGreatDoor
open Go.RowKit

theorem els_low {w : World} {B B' : Nat} {v : Value} {es : List El} (h : Elems w B' v es) (hB : B ≤ B') : Elems w B v es := by
  refine ⟨h.1, ?_⟩
  rcases h.2 with h | ⟨g, cap, cur, h1, h2, h3⟩
  · exact .inl h
  · exact .inr ⟨g, cap, cur, h1, Nat.le_trans hB h2, h3⟩

theorem aR_good (x : ByteArray) : ∀ y ∈ aR x, goodB y = true := by
  unfold aR
  split
  · intro y hy
    exact apD_good (dec_good x.size x) y (mem_sortM.1 hy)
  · intro y hy; cases hy

/-- The rules' block. -/
def BoxR4 (u : World) (b : Nat) (v : Value) (sh : Bool) (lv : Int) : Prop := u.heap[b]? = some (.cells #[v, .bool sh, .int .i64 lv] 25)

theorem BoxR4.below {B b : Nat} {u u' : World} {v : Value} {sh : Bool} {lv : Int} (h : BoxR4 u b v sh lv) (hb : Below B u u') (hlt : b < B) : BoxR4 u' b v sh lv := (hb.block b hlt).trans h

theorem BoxR4.cells {b : Nat} {u : World} {v : Value} {sh : Bool} {lv : Int} (h : BoxR4 u b v sh lv) : u.cell? ⟨b, 0, none⟩ = some v ∧ u.cell? ⟨b, 1, none⟩ = some (.bool sh) ∧ u.cell? ⟨b, 2, none⟩ = some (.int .i64 lv) :=
  ⟨cell_of_row _ _ 0 _ _ _ h, cell_of_row _ _ 1 _ _ _ h, cell_of_row _ _ 2 _ _ _ h⟩

def EiRel (w0 : World) (es : List Ent) (goal : List El) (v6 v8 : Value) (wr : World) : Prop :=
  ∃ (g : Nat) (rest : List Int) (done : List El), w0.heap.size ≤ g ∧ rest.length ≤ 200 ∧ done.length + 2 * rest.length ≤ 400 ∧ (∀ x ∈ rest, goodB x = true) ∧ MidG wr g v6 rest ∧ Elems wr w0.heap.size v8 done ∧ done ++ elems4 es rest = goal ∧ Below w0.heap.size w0 wr

theorem els_apart {u u' : World} {B g : Nat} {v : Value} {es : List El} {cs : Array Value} (h : Elems u B v es) (hg : u.grownBy u' (some g)) (hc : u.heap[g]? = some (.cells cs 3)) : Elems u' B v es := by
  refine World.ownsRow.kept h hg ?_
  rcases h.2 with ⟨rfl, _⟩ | ⟨g', cap, cur, rfl, _, h3, _⟩
  · exact .inl rfl
  · refine .inr fun e => ?_
    have e2 : g' = g := Option.some.inj e
    subst e2
    rw [hc] at h3
    injection h3 with h4
    injection h4 with _ h5
    exact absurd h5 (by decide)

set_option maxRecDepth 100000 in
set_option maxHeartbeats 8000000 in
/-- The elems of runes that lie in memory made behind wb. -/
theorem elemsRn_any {w wb : World} {B : Nat} {ve v : Value} {es : List Ent} {rs : List Int} (hbw : Below wb.heap.size wb w) (hE : Ents wb B ve es) (hne : es.length ≤ 1048576) (hr : ∀ e ∈ es, e.runes.length ≤ 1048576) (ht : Tabs3 wb) (hI : Ints w wb.heap.size v rs) (hlen : rs.length ≤ 200) (hgood : ∀ x ∈ rs, goodB x = true) :
    Calls Tryz.prog 68 #[ve, v] w fun e w' => ∃ v', e = .returned v' ∧ Elems w' wb.heap.size v' (elems4 es rs) ∧ Below wb.heap.size wb w' := by
  obtain ⟨va, vc, rfl⟩ : ∃ a c, ve = .slice a es.length c := by
    rcases hE.form with ⟨rfl, rfl⟩ | ⟨_, _, rfl, _, _, _, _⟩
    · exact ⟨_, _, rfl⟩
    · exact ⟨_, _, rfl⟩
  have HS2 : Hid (EiRel wb es (elems4 es rs) v (.slice none 0 0) w) := by
    rcases hI.midI with h | ⟨g, f, c, cs, h1, h2, h3, h4, h5, h6⟩
    · exact ⟨wb.heap.size, rs, [], Nat.le_refl _, hlen, by simp; omega, hgood, .inl h, ⟨rfl, .inl ⟨rfl, rfl⟩⟩, rfl, hbw⟩
    · exact ⟨g, rs, [], h4, hlen, by simp; omega, hgood, .inr ⟨f, c, cs, h1, h2, h3, h5, h6⟩, ⟨rfl, .inl ⟨rfl, rfl⟩⟩, rfl, hbw⟩
  have HE : Hid (Ents _ _ _ _) := hE
  have HT : Hid (Tabs3 _) := ht
  generalize elems4 es rs = goal at *
  clear hlen hgood hI hbw hE ht
  go_enter Tryz.func68, Tryz.ntmps68
  go_wp2_with fail
  go_loopw [1, 5] (fun v6 v8 wr => EiRel wb es goal v6 v8 wr) (fun v6 _ _ => sliceLen v6)
  case atStart => exact HS2.out
  case round =>
    clear HS2
    obtain ⟨g, rest, done, hg0, hrl, hdl, hgd, hM, hD, hgo, hbr⟩ := hrel
    have hl6 := hM.len
    have HGO : Hid (done ++ elems4 es rest = goal) := hgo
    clear hgo
    by_cases h0 : rest.length = 0
    · have hr0 : rest = [] := List.eq_nil_of_length_eq_zero h0
      subst hr0
      have HF : Hid (done = goal) := by show _ = _; rw [← HGO.out, elems4_nil, List.append_nil]
      obtain ⟨a6, c6, rfl⟩ : ∃ a c, u1 = .slice a 0 c := by
        rcases hM with ⟨a, c, h, _⟩ | ⟨f, c, cs, h, _⟩
        · exact ⟨a, c, h⟩
        · exact ⟨_, _, h⟩
      have HD : Hid (Elems _ _ _ _) := hD
      have HBR : Hid (Below _ _ _) := hbr
      clear hM HGO hD hbr
      go_wp2
      go_ret
      rw [← HF.out]
      exact ⟨_, rfl, HD.out, HBR.out⟩
    · obtain ⟨f, c, cs, h61, h62, h63, h64, h65⟩ : ∃ f c cs, u1 = .slice (some ⟨g, f, none⟩) rest.length c ∧ rest.length ≤ c ∧ c ≤ maxLen ∧ wr.heap[g]? = some (.cells cs 3) ∧ ∀ j x, rest[j]? = some x → wr.cell? ⟨g, f + j, none⟩ = some (.int .i64 x) := by
        rcases hM with ⟨a, c, _, h⟩ | h
        · subst h; exact absurd rfl h0
        · exact h
      subst h61
      have hk := take4_kept (es := es) (l := rest) (by omega)
      have TR := takeRun_row wr wb B g f c cs (.slice va es.length vc) es rest hbr HE.out hne hr HT.out hg0 (by omega) (by omega) h62 h63 h64 h65
      have HGO2 : Hid ((done ++ elsOf es (take4 es rest).1) ++ elems4 es (take4 es rest).2 = goal) := by
        show _ = _
        rw [← HGO.out, elems4_step (es := es) (l := rest) (by omega), List.append_assoc]
      have hel := elsOf_len es (take4 es rest).1
      obtain ⟨k1, k2, k3, k4, k5⟩ := hk
      generalize (take4 es rest).1 = run at *
      generalize (take4 es rest).2 = rest2 at *
      have HG64 : Hid (wr.heap[g]? = some (.cells cs 3)) := h64
      have hgr : ∀ x ∈ run, goodB x = true := fun x hx => hgd x (k4 x hx)
      have hgr2 : ∀ x ∈ rest2, goodB x = true := fun x hx => hgd x (k5 x hx)
      have HGR2 : Hid (∀ x ∈ rest2, goodB x = true) := hgr2
      have HGR : Hid (∀ x ∈ run, goodB x = true) := hgr
      have HD : Hid (Elems _ _ _ _) := hD
      have hszr := hbr.size
      have h08 : (0 : Int) < (rest.length : Int) := by omega
      clear h64 h65 hM HGO hgd hgr hgr2 hD k3 k4 k5 hbr
      go_wp2_with fail
      refine TR.mono ?_
      rintro e w3 ⟨vr, vq, rfl, ir, mq, b3, g3⟩
      clear TR
      have HD3 : Hid (Elems w3 wb.heap.size u5 done) := els_apart HD.out g3 HG64.out
      have EO := elemsOf_any (HE.out.below b3) hne hr (HT.out.below b3) ir k2 HGR.out
      have hsz3 := b3.size
      have HMQ : Hid (MidG _ _ _ _) := mq
      have HB3 : Hid (Below _ _ _) := b3
      clear HD g3 HG64 ir mq b3 HGR
      go_wp2_with fail
      refine EO.mono ?_
      rintro e w4 ⟨v4, rfl, e4, b4⟩
      clear EO
      have b4' : Below wb.heap.size wb w4 := HB3.out.trans (b4.mono HB3.out.size)
      have d4 : Elems w4 wb.heap.size u5 done := HD3.out.below b4
      have m4 : MidG w4 g vq rest2 := HMQ.out.below b4
      have HM4 : Hid (MidG _ _ _ _) := m4
      have HB4 : Hid (Below _ _ _) := b4'
      have hsz4 := b4'.size
      clear HD3 HMQ HB3 b4 b4' m4
      go_wp2_with (at_builtin; refine append_els rfl _ _ rfl wb.heap.size _ u5 v4 done (elsOf es run) rfl rfl d4 e4 (by omega) (by omega) ?_)
      intro v5 w5 e5 g5
      have HM5 : Hid (MidG w5 g vq rest2) := by
        rcases HM4.out with h | ⟨f, c, cs, q1, q2, q3, q4, q5⟩
        · exact .inl h
        · refine MidG.kept (.inr ⟨f, c, cs, q1, q2, q3, q4, q5⟩) g5 fun c => ?_
          rcases d4.2 with ⟨rfl, _⟩ | ⟨g', cap, cur, rfl, _, h3, _⟩
          · cases c
          · have e2 : g = g' := Option.some.inj c
            subst e2
            rw [q4] at h3
            injection h3 with h4
            injection h4 with _ h5
            exact absurd h5 (by decide)
      have HB5 : Hid (Below wb.heap.size wb w5) := Below.grown HB4.out g5 HB4.out.size (fun j hj => (World.ownsRow.lt d4 j hj).1)
      have HE5 : Hid (Elems _ _ _ _) := e5
      clear e5 g5 d4 e4 HM4 HB4
      go_wp2
      refine ⟨⟨g, rest2, done ++ elsOf es run, hg0, by omega, by rw [List.length_append]; omega, HGR2.out, HM5.out, HE5.out, HGO2.out, HB5.out⟩, ?_⟩
      have := HM5.out.len
      show sliceLen _ < sliceLen _
      rw [this]
      show _ < rest.length
      omega

set_option maxRecDepth 100000 in
set_option maxHeartbeats 8000000 in
theorem implElemsIn_any {w : World} {B : Nat} {ve : Value} {es : List Ent} {sh : Bool} {lv : Int} (x : ByteArray) (hx : x.size ≤ 1048576) (hE : Ents w B ve es) (hr : ∀ e ∈ es, e.runes.length ≤ 1048576) (ht : Tabs3 w) :
    Calls Tryz.prog 48 #[.agg #[ve, .bool sh, .int .i64 lv], .string x] w fun e w' => ∃ v', e = .returned (.tuple #[v', .bool (okE es lv x)]) ∧ Elems w' w.heap.size v' (elsA es lv x) ∧ Below w.heap.size w w' := by
  obtain ⟨va, vc, rfl⟩ : ∃ a c, ve = .slice a es.length c := by
    rcases hE.form with ⟨rfl, rfl⟩ | ⟨_, _, rfl, _, _, _, _⟩
    · exact ⟨_, _, rfl⟩
    · exact ⟨_, _, rfl⟩
  have hbx : Below w.heap.size w (w.alloc (.cells #[.slice va es.length vc, .bool sh, .int .i64 lv] 25)) := (Below.refl _ _).alloc (Nat.le_refl _) _
  have hbox : BoxR4 (w.alloc (.cells #[.slice va es.length vc, .bool sh, .int .i64 lv] 25)) w.heap.size (.slice va es.length vc) sh lv := heap_alloc_new w _
  have AT := apartT_any x hx (w.alloc (.cells #[.slice va es.length vc, .bool sh, .int .i64 lv] 25)) (ht.below hbx)
  have hlen := aR_len x
  have hgood := aR_good x
  unfold elsA okE
  have HE : Hid (Ents _ _ _ _) := hE.below hbx
  have HT : Hid (Tabs3 _) := ht.below hbx
  clear hE ht
  cases hok : ok4 x
  · rw [hok] at AT
    rw [Bool.false_and, if_neg (by simp)]
    clear hok
    go_enter Tryz.func48, Tryz.ntmps48
    go_wp2_with fail
    refine AT.mono ?_
    rintro e w1 ⟨v1, rfl, i1, b1⟩
    clear AT
    go_wp2
    go_ret2
    exact ⟨_, rfl, ⟨rfl, .inl ⟨rfl, rfl⟩⟩, hbx.trans (b1.mono hbx.size)⟩
  · have har : aR x = rn4 x := by unfold aR; rw [hok]; rfl
    rw [hok, har] at AT
    rw [har] at hlen hgood
    rw [Bool.true_and]
    clear hok har
    generalize rn4 x = rs at *
    have GR := fun (u : World) (hu : Below (w.alloc (.cells #[.slice va es.length vc, .bool sh, .int .i64 lv] 25)).heap.size (w.alloc (.cells #[.slice va es.length vc, .bool sh, .int .i64 lv] 25)) u) => implGood3_any (sh := sh) (lv := lv) (HE.out.below hu) hr (HT.out.below hu)
    have hlb : w.heap.size < (w.alloc (.cells #[.slice va es.length vc, .bool sh, .int .i64 lv] 25)).heap.size := by simp
    cases hro : rulesOk es lv
    · rw [hro] at GR
      rw [if_neg (by simp)]
      clear hro
      go_enter Tryz.func48, Tryz.ntmps48
      go_wp2_with fail
      refine AT.mono ?_
      rintro e w1 ⟨v1, rfl, i1, b1⟩
      have G1 := GR _ b1
      obtain ⟨c0, c1, c2⟩ := (hbox.below b1 hlb).cells
      have hsz1 := b1.size
      clear AT GR hbox
      go_wp2_with fail
      refine G1.mono ?_
      rintro e w2 ⟨rfl, b2⟩
      clear G1
      have b3 := hbx.trans ((b1.trans (b2.mono b1.size)).mono hbx.size)
      go_wp2
      go_ret2
      exact ⟨_, rfl, ⟨rfl, .inl ⟨rfl, rfl⟩⟩, b3⟩
    · rw [hro] at GR
      rw [if_pos rfl]
      have hne : es.length ≤ 1048576 := by have := (of_decide_eq_true (show decide _ = true from hro)).1; omega
      clear hro
      obtain ⟨wb, HWB⟩ : ∃ wb, Hid (wb = w.alloc (.cells #[.slice va es.length vc, .bool sh, .int .i64 lv] 25)) := ⟨_, rfl⟩
      have hwb := HWB.out
      rw [← hwb] at hbx hbox HE HT hlb AT GR
      clear hwb
      go_enter Tryz.func48, Tryz.ntmps48
      go_wp2_with fail
      rw [← HWB.out]
      refine AT.mono ?_
      rintro e w1 ⟨v1, rfl, i1, b1⟩
      have G1 := GR _ b1
      obtain ⟨c0, c1, c2⟩ := (hbox.below b1 hlb).cells
      have hsz1 := b1.size
      have hsw : w.heap.size < w1.heap.size := by omega
      clear AT GR HWB
      go_wp2_with fail
      refine G1.mono ?_
      rintro e w2 ⟨rfl, b2⟩
      have b12 := b1.trans (b2.mono b1.size)
      have ER := elemsRn_any b12 HE.out hne hr HT.out (i1.below b2) hlen hgood
      clear G1 c0 c1 c2
      obtain ⟨c0, c1, c2⟩ := (hbox.below b12 hlb).cells
      have hsz2 := b12.size
      have hsw2 : w.heap.size < w2.heap.size := by omega
      clear i1 b1 b2 b12
      go_wp2_with fail
      refine ER.mono ?_
      rintro e w3 ⟨v3, rfl, e3, b3⟩
      clear ER c0 c1 c2
      go_wp2
      go_ret2
      exact ⟨_, rfl, els_low e3 hbx.size, hbx.trans (b3.mono hbx.size)⟩
end Go.Proofs.YtinjldagfhbioaaGreatDoor

namespace Go.Proofs.YtinjldagfhbioaaGreatDoor
open Go.RowKit

theorem counted_nil (sh : Bool) : counted sh [] = [] := rfl
theorem fourths_nil (sh : Bool) : fourths sh [] = [] := rfl

/-- The block of counted elems. -/
def BoxC (u : World) (b : Nat) (v v' : Value) : Prop := u.heap[b]? = some (.cells #[v, v'] 64)
theorem BoxC.below {B b : Nat} {u u' : World} {v v' : Value} (h : BoxC u b v v') (hb : Below B u u') (hlt : b < B) : BoxC u' b v v' := (hb.block b hlt).trans h
theorem BoxC.cells {b : Nat} {u : World} {v v' : Value} (h : BoxC u b v v') : u.cell? ⟨b, 0, none⟩ = some v ∧ u.cell? ⟨b, 1, none⟩ = some v' ∧ ∀ j, u.frozen? ⟨b, j, none⟩ = false :=
  ⟨cell_of_row _ _ 0 _ _ _ h, cell_of_row _ _ 1 _ _ _ h, fun j => by unfold BoxC at h; simp [World.frozen?, h]⟩

theorem els_form {w : World} {B : Nat} {v : Value} {es : List El} (h : Elems w B v es) : ∃ a c, v = .slice a es.length c := by
  obtain ⟨a, c, h, _⟩ := els_slice h; exact ⟨a, c, h⟩
theorem ints_form {w : World} {B : Nat} {v : Value} {l : List Int} (h : Ints w B v l) : ∃ a c, v = .slice a l.length c := by
  obtain ⟨a, c, h, _⟩ := ints_slice h; exact ⟨a, c, h⟩

theorem els_set2 {w : World} {B b : Nat} {v x y : Value} {es : List El} (h : Elems w B v es) (hb : b < B) : Elems ((w.setCell ⟨b, 0, none⟩ x).setCell ⟨b, 1, none⟩ y) B v es :=
  World.ownsRow.kept (World.ownsRow.kept h (setCell_grown w b 0 x) (by
    cases e : v.ownBlock with
    | none => exact .inl rfl
    | some g => exact .inr fun c => by have := (World.ownsRow.lt h g e).1; cases c; omega)) (setCell_grown _ b 1 y) (by
    cases e : v.ownBlock with
    | none => exact .inl rfl
    | some g => exact .inr fun c => by have := (World.ownsRow.lt h g e).1; cases c; omega)
theorem ints_set2 {w : World} {B b : Nat} {v x y : Value} {l : List Int} (h : Ints w B v l) (hb : b < B) : Ints ((w.setCell ⟨b, 0, none⟩ x).setCell ⟨b, 1, none⟩ y) B v l :=
  World.ownsRow.kept (World.ownsRow.kept h (setCell_grown w b 0 x) (by
    cases e : v.ownBlock with
    | none => exact .inl rfl
    | some g => exact .inr fun c => by have := (World.ownsRow.lt h g e).1; cases c; omega)) (setCell_grown _ b 1 y) (by
    cases e : v.ownBlock with
    | none => exact .inl rfl
    | some g => exact .inr fun c => by have := (World.ownsRow.lt h g e).1; cases c; omega)
theorem below_set2 {w u : World} {b B : Nat} {x y : Value} (h : Below B w u) (hb : B ≤ b) : Below B w ((u.setCell ⟨b, 0, none⟩ x).setCell ⟨b, 1, none⟩ y) := (h.setCell hb _).setCell hb _

set_option maxRecDepth 100000 in
set_option maxHeartbeats 4000000 in
theorem count_any {w : World} {B : Nat} {ve : Value} {es : List Ent} {sh : Bool} {lv : Int} (x : ByteArray) (hx : x.size ≤ 1048576) (hE : Ents w B ve es) (hr : ∀ e ∈ es, e.runes.length ≤ 1048576) (ht : Tabs3 w) :
    Calls Tryz.prog 25 #[.agg #[ve, .bool sh, .int .i64 lv], .string x] w fun e w' => ∃ v v', e = .returned (.tuple #[.agg #[v, v'], .bool (okE es lv x)]) ∧ Elems w' w.heap.size v (counted sh (elsA es lv x)) ∧ Ints w' w.heap.size v' (fourths sh (elsA es lv x)) ∧ Below w.heap.size w w' := by
  obtain ⟨va, vc, rfl⟩ : ∃ a c, ve = .slice a es.length c := by
    rcases hE.form with ⟨rfl, rfl⟩ | ⟨_, _, rfl, _, _, _, _⟩
    · exact ⟨_, _, rfl⟩
    · exact ⟨_, _, rfl⟩
  have hb2 : Below w.heap.size w ((w.alloc (.cells #[.slice va es.length vc, .bool sh, .int .i64 lv] 25)).alloc (.cells #[.slice none 0 0, .slice none 0 0] 64)) := ((Below.refl _ _).alloc (Nat.le_refl _) _).alloc (by simp) _
  have hbox : BoxR4 ((w.alloc (.cells #[.slice va es.length vc, .bool sh, .int .i64 lv] 25)).alloc (.cells #[.slice none 0 0, .slice none 0 0] 64)) w.heap.size (.slice va es.length vc) sh lv := by
    unfold BoxR4
    rw [Below.heap_alloc _ _ _ (by simp)]; exact heap_alloc_new w _
  have hboc : BoxC ((w.alloc (.cells #[.slice va es.length vc, .bool sh, .int .i64 lv] 25)).alloc (.cells #[.slice none 0 0, .slice none 0 0] 64)) (w.heap.size + 1) (.slice none 0 0) (.slice none 0 0) := heap_alloc2_new w _ _
  have hsz : ((w.alloc (.cells #[.slice va es.length vc, .bool sh, .int .i64 lv] 25)).alloc (.cells #[.slice none 0 0, .slice none 0 0] 64)).heap.size = w.heap.size + 1 + 1 := by simp
  have EI := implElemsIn_any (sh := sh) (lv := lv) x hx (hE.below hb2) hr (ht.below hb2)
  have hlen := elsA_len es lv x
  have HSZ : Hid (_ = _) := hsz
  have HBX : Hid (BoxR4 _ _ _ _ _) := hbox
  have HBC : Hid (BoxC _ _ _ _) := hboc
  have HB2 : Hid (Below _ _ _) := hb2
  clear hE ht hr hx hsz hbox hboc hb2
  cases hok : okE es lv x
  · rw [hok] at EI
    have he0 : elsA es lv x = [] := by unfold elsA; rw [hok]; rfl
    rw [he0, counted_nil, fourths_nil]
    clear hok he0 hlen
    go_enter Tryz.func25, Tryz.ntmps25
    go_wp2_with fail
    refine EI.mono ?_
    rintro e w1 ⟨v1, rfl, i1, b1⟩
    have hc1 := HBC.out.below b1 (by rw [HSZ.out]; omega)
    obtain ⟨c0, c1, cf⟩ := hc1.cells
    have hl1 : w.heap.size + 1 < w1.heap.size := (Array.getElem?_eq_some_iff.1 hc1).1
    have HB1 : Hid (Below _ _ _) := HB2.out.trans (b1.mono HB2.out.size)
    clear EI i1 b1 hc1
    go_wp2
    refine bodyPost_ret (v := .tuple #[.agg #[.slice none 0 0, .slice none 0 0], .bool false]) ?_ rfl ⟨_, _, rfl, ⟨rfl, .inl ⟨rfl, rfl⟩⟩, ⟨rfl, .inl ⟨rfl, rfl⟩⟩, below_set2 HB1.out (by omega)⟩
    rw [results_cell_tmp rfl]
    go_simp
  · rw [hok] at EI
    clear hok
    generalize elsA es lv x = el at *
    go_enter Tryz.func25, Tryz.ntmps25
    go_wp2_with fail
    refine EI.mono ?_
    rintro e w1 ⟨v1, rfl, i1, b1⟩
    have hx1 := HBX.out.below b1 (by rw [HSZ.out]; omega)
    have hc1 := HBC.out.below b1 (by rw [HSZ.out]; omega)
    obtain ⟨p0, p1, p2⟩ := hx1.cells
    have hl1 : w.heap.size + 1 < w1.heap.size := (Array.getElem?_eq_some_iff.1 hc1).1
    have HB1 : Hid (Below _ _ _) := HB2.out.trans (b1.mono HB2.out.size)
    have FO := implFourth_ok sh (by omega) i1
    have HC1 : Hid (BoxC _ _ _ _) := hc1
    clear EI i1 b1 hc1 hx1
    go_wp2_with fail
    refine FO.mono ?_
    rintro e w2 ⟨v2, v3, rfl, i2, e2, b2⟩
    have hc2 := HC1.out.below b2 hl1
    obtain ⟨c0, c1, cf⟩ := hc2.cells
    have hl2 : w.heap.size + 1 < w2.heap.size := (Array.getElem?_eq_some_iff.1 hc2).1
    have HBB : Hid (Below _ _ _) := HB1.out.trans (b2.mono HB1.out.size)
    have HI2 : Hid (Ints _ _ _ _) := i2
    have HE2 : Hid (Elems _ _ _ _) := e2
    obtain ⟨a3, k3, rfl⟩ := els_form e2
    obtain ⟨a2, k2, rfl⟩ := ints_form i2
    clear FO p0 p1 p2 b2 hc2 i2 e2 HC1
    go_wp2
    refine bodyPost_ret (v := .tuple #[.agg #[.slice a3 (counted sh el).length k3, .slice a2 (fourths sh el).length k2], .bool true]) ?_ rfl ⟨_, _, rfl, els_low (els_set2 HE2.out hl1) (by omega), low_ints (ints_set2 HI2.out hl1) (by omega), below_set2 HBB.out (by omega)⟩
    rw [results_cell_tmp rfl]
    go_simp
end Go.Proofs.YtinjldagfhbioaaGreatDoor

namespace Go.Proofs.YtinjldagfhbioaaGreatDoor
open Go.RowKit

theorem firsT_of {es : List Ent} {sh : Bool} {lv : Int} {x : ByteArray} : firsT es sh lv x = wts 1 (counted sh (elsA es lv x)) (fourths sh (elsA es lv x)) := by
  unfold firsT elsA
  split
  · rfl
  · rfl

set_option maxRecDepth 100000 in
set_option maxHeartbeats 4000000 in
theorem implFirsts_any {w : World} {B : Nat} {ve : Value} {es : List Ent} {sh : Bool} {lv : Int} (x : ByteArray) (hx : x.size ≤ 1048576) (hE : Ents w B ve es) (hr : ∀ e ∈ es, e.runes.length ≤ 1048576) (ht : Tabs3 w) :
    Calls Tryz.prog 8 #[.agg #[ve, .bool sh, .int .i64 lv], .string x] w fun e w' => ∃ v, e = .returned (.tuple #[v, .bool (okE es lv x)]) ∧ Ints w' w.heap.size v (firsT es sh lv x) ∧ Below w.heap.size w w' := by
  obtain ⟨va, vc, rfl⟩ : ∃ a c, ve = .slice a es.length c := by
    rcases hE.form with ⟨rfl, rfl⟩ | ⟨_, _, rfl, _, _, _, _⟩
    · exact ⟨_, _, rfl⟩
    · exact ⟨_, _, rfl⟩
  have hbx : Below w.heap.size w (w.alloc (.cells #[.slice va es.length vc, .bool sh, .int .i64 lv] 25)) := (Below.refl _ _).alloc (Nat.le_refl _) _
  have C := count_any (sh := sh) (lv := lv) x hx (hE.below hbx) hr (ht.below hbx)
  have hlen := elsA_len es lv x
  rw [firsT_of]
  have hcl := counted_len sh (elsA es lv x)
  have hfl := fourths_len sh (elsA es lv x)
  have HBX : Hid (Below _ _ _) := hbx
  have hfc : (fourths sh (elsA es lv x)).length = (counted sh (elsA es lv x)).length := by omega
  have hcn : (counted sh (elsA es lv x)).length ≤ 1048576 := by omega
  have HFC : Hid (_ = _) := hfc
  clear hE ht hr hx hlen hcl hfl hfc hbx
  cases hok : okE es lv x
  · rw [hok] at C
    have he0 : elsA es lv x = [] := by unfold elsA; rw [hok]; rfl
    rw [he0, counted_nil, fourths_nil] at C
    rw [he0, counted_nil, fourths_nil]
    clear hok he0 HFC hcn
    go_enter Tryz.func8, Tryz.ntmps8
    go_wp2_with fail
    refine C.mono ?_
    rintro e w1 ⟨v1, v2, rfl, e1, i1, b1⟩
    obtain ⟨a1, k1, rfl⟩ := els_form e1
    obtain ⟨a2, k2, rfl⟩ := ints_form i1
    have HB1 : Hid (Below _ _ _) := HBX.out.trans (b1.mono HBX.out.size)
    clear C i1 e1 b1
    go_wp2
    go_ret2
    exact ⟨_, rfl, ⟨rfl, .inl ⟨rfl, rfl⟩⟩, HB1.out.alloc HB1.out.size _⟩
  · rw [hok] at C
    clear hok
    generalize counted sh (elsA es lv x) = xs at *
    generalize fourths sh (elsA es lv x) = fs at *
    go_enter Tryz.func8, Tryz.ntmps8
    go_wp2_with fail
    refine C.mono ?_
    rintro e w1 ⟨v1, v2, rfl, e1, i1, b1⟩
    obtain ⟨a1, k1, rfl⟩ := els_form e1
    obtain ⟨a2, k2, rfl⟩ := ints_form i1
    have HB1 : Hid (Below _ _ _) := HBX.out.trans (b1.mono HBX.out.size)
    have hb2 : Below w1.heap.size w1 (w1.alloc (.cells #[.slice a1 xs.length k1, .slice a2 fs.length k2] 64)) := (Below.refl _ _).alloc (Nat.le_refl _) _
    have WT := weights1_any (e1.below hb2) (i1.below hb2) HFC.out hcn
    have HB2 : Hid (Below _ _ _) := HB1.out.trans (hb2.mono HB1.out.size)
    clear C i1 e1 b1 hb2
    go_wp2_with fail
    refine WT.mono ?_
    rintro e w3 ⟨v3, rfl, i3, b3⟩
    have HI3 : Hid (Ints _ _ _ _) := i3
    clear WT i3
    go_wp2
    go_ret2
    exact ⟨_, rfl, low_ints HI3.out HB2.out.size, HB2.out.trans (b3.mono HB2.out.size)⟩
end Go.Proofs.YtinjldagfhbioaaGreatDoor

namespace Go.Proofs.YtinjldagfhbioaaGreatDoor
open Go.RowKit

theorem run_append_none1 {P : Program} (w : World) (t ty e : TypeId) (i : TypeInfo) (ht : P.underlying t = some (.slice e)) (hi : P.info? e = some i) (b : Option Addr) (n c c' : Nat) (hle : n ≤ c) :
    (Builtin.append_ #[t, t] ty #[.slice b n c, .slice none 0 c']).run P w = .ok (.slice b n c) w := by
  cases b <;> simp [Builtin.append_, run_underlying ht, sizeOf, typeInfo, hi, hle, storeCells, Builtin.lenOf, Builtin.firstCells]

theorem wp_append_ints {w : World} {o : Oper} {a : Act} {K : Act → World → Prop} {Q : Exit → Act → World → Prop} (s x : Operand)
    (ho : o.op = .call { callee := .builtin .append, args := #[s, x], argTypes := #[35, 35] }) (B : Nat) (v vx : Value) (l l' : List Int) (hs : a.eval s = v) (hx : a.eval x = vx) (hI : Ints w B v l) (hR : RowAt w vx l')
    (h63 : l.length + l'.length ≤ 1048576) (hbase : B ≤ w.heap.size) (h : ∀ v' w', Ints w' B v' (l ++ l') → w.grownBy w' v.ownBlock → K (a.put o.dst v') w') : Oper.wp Tryz.prog o a w K Q := by
  obtain ⟨i0, hi, hzz, hz1, hz2⟩ := info_parts info_int
  have app : ∀ (ad : Addr) (c : Nat), vx = .slice (some ad) l'.length c → (∀ j u, (l'.map (Value.int .i64))[j]? = some u → w.cell? (ad.add j) = some u) → Oper.wp Tryz.prog o a w K Q := fun ad c hv hc => by
    refine wp_append_own w s x 35 ho B 3 i0 (.int .i64 0) 1 8 Tryz.underlying35 hi hzz hz1 hz2 rfl (by decide) v l.length (l.map (Value.int .i64)) hs hI ad l'.length c (l'.map (Value.int .i64)) (hx.trans hv) (by simp) hc (fun u hu => by obtain ⟨y, _, rfl⟩ := List.mem_map.1 hu; rfl) (by unfold maxLen; omega) (by omega) hbase fun v' w' h1 h2 _ => h v' w' ?_ h2
    unfold Ints
    rw [List.length_append, List.map_append]
    exact h1
  rcases hR with ⟨b, c, hv, rfl⟩ | ⟨g, f, c, hv, _, hc⟩
  · cases b with
    | none =>
      obtain ⟨b, n, c', rfl, hnc⟩ : ∃ b n c, v = .slice b n c ∧ n ≤ c := by
        rcases hI.form with ⟨rfl, rfl⟩ | ⟨g, cap, rfl, h1, _⟩
        · exact ⟨_, _, _, rfl, Nat.le_refl _⟩
        · exact ⟨_, _, _, rfl, h1⟩
      refine Go.Lib.wp_append_run w s x 35 35 ho _ _ hs (hx.trans hv) _ _ (run_append_none1 w _ _ _ i0 Tryz.underlying35 hi b n c' c hnc) ?_
      refine h _ _ ?_ ⟨rfl, rfl, rfl, Nat.le_refl _, fun _ _ _ => rfl⟩
      rw [List.append_nil]
      exact hI
    | some ad => exact app ad c hv (fun j u hj => by simp at hj)
  · refine app ⟨g, f, none⟩ c hv fun j u hj => ?_
    rw [List.getElem?_map, Option.map_eq_some_iff] at hj
    obtain ⟨y, hy, rfl⟩ := hj
    rw [Addr.add_mid]
    exact hc j y hy

theorem append_ints {w : World} {ops : Array Oper} {rest : List Oper} {o : Oper} {a : Act} {Q : Exit → Act → World → Prop} (hgd : o.guard = none) (s x : Operand)
    (ho : o.op = .call { callee := .builtin .append, args := #[s, x], argTypes := #[35, 35] }) (B : Nat) (v vx : Value) (l l' : List Int) (hs : a.eval s = v) (hx : a.eval x = vx) (hI : Ints w B v l) (hR : RowAt w vx l')
    (h63 : l.length + l'.length ≤ 1048576) (hbase : B ≤ w.heap.size) (h : ∀ v' w', Ints w' B v' (l ++ l') → w.grownBy w' v.ownBlock → wpList Tryz.prog ops Q rest (a.put o.dst v') w') : wpList Tryz.prog ops Q (o :: rest) a w :=
  wpList_plain hgd fun _ hK => wp_append_ints s x ho B v vx l l' hs hx hI hR h63 hbase fun v' w' h1 h2 => hK _ _ (h v' w' h1 h2)

theorem step_append_ints {w : World} {ops : Array Oper} {o : Oper} {a : Act} {K : Act → World → Prop} {Q : Exit → Act → World → Prop} {E : Prop} (hgd : o.guard = none) (s x : Operand)
    (ho : o.op = .call { callee := .builtin .append, args := #[s, x], argTypes := #[35, 35] }) (B : Nat) (v vx : Value) (l l' : List Int) (hs : a.eval s = v) (hx : a.eval x = vx) (hI : Ints w B v l) (hR : RowAt w vx l')
    (h63 : l.length + l'.length ≤ 1048576) (hbase : B ≤ w.heap.size) (h : ∀ v' w', Ints w' B v' (l ++ l') → w.grownBy w' v.ownBlock → K (a.put o.dst v') w') :
    if Region.wanted o (yielded ops a.tmps) = true then Oper.wp Tryz.prog o a w K Q else E := by
  rw [if_pos (by simp [Region.wanted, hgd])]
  exact wp_append_ints s x ho B v vx l l' hs hx hI hR h63 hbase h

theorem Ints.take {w : World} {B g cap : Nat} {l : List Int} (h : Ints w B (.slice (some ⟨g, 0, none⟩) l.length cap) l) (k : Nat) (hk : k ≤ l.length) : Ints w B (.slice (some ⟨g, 0, none⟩) k cap) (l.take k) := by
  have hlk : (l.take k).length = k := by rw [List.length_take]; omega
  rcases h.2 with ⟨a, _⟩ | ⟨g', cap', cur, a, b, c, d, e, f, f2⟩
  · cases a
  · injection a with a1 a2 a3
    injection a1 with a4
    injection a4 with a5
    subst a5
    subst a3
    refine ⟨by simp, .inr ⟨g, cap, cur, by rw [hlk], b, c, by omega, e, f, ?_⟩⟩
    rw [hlk, List.map_take, ← f2, List.take_take]
    simp
    omega

/-- An empty list that was laid just now. -/
theorem ints_lit0 (w : World) (B : Nat) (hB : B ≤ w.heap.size) : Ints (w.alloc (.cells #[] 3)) B (.slice (some ⟨w.heap.size, 0, none⟩) 0 0) [] :=
  ⟨rfl, .inr ⟨w.heap.size, 0, #[], rfl, hB, heap_alloc_new _ _, Nat.le_refl _, Nat.zero_le _, rfl, rfl⟩⟩
end Go.Proofs.YtinjldagfhbioaaGreatDoor

namespace Go.Proofs.YtinjldagfhbioaaGreatDoor
open Go.RowKit

/-- A list of ints in the block g, with its room behind it. -/
def MidS (w : World) (g : Nat) (v : Value) (l : List Int) : Prop :=
  ∃ f c cs, v = .slice (some ⟨g, f, none⟩) l.length c ∧ l.length ≤ c ∧ c ≤ maxLen ∧ f + c ≤ cs.size ∧ w.heap[g]? = some (.cells cs 3) ∧ ∀ j x, l[j]? = some x → w.cell? ⟨g, f + j, none⟩ = some (.int .i64 x)

theorem MidS.midG {w : World} {g : Nat} {v : Value} {l : List Int} (h : MidS w g v l) : MidG w g v l := by
  obtain ⟨f, c, cs, h1, h2, h3, _, h4, h5⟩ := h
  exact .inr ⟨f, c, cs, h1, h2, h3, h4, h5⟩

theorem MidS.len {w : World} {g : Nat} {v : Value} {l : List Int} (h : MidS w g v l) : sliceLen v = l.length := h.midG.len

theorem MidS.below {w w' : World} {g : Nat} {v : Value} {l : List Int} (h : MidS w g v l) (hb : Below w.heap.size w w') : MidS w' g v l := by
  obtain ⟨f, c, cs, h1, h2, h3, h6, h4, h5⟩ := h
  have hg := (Array.getElem?_eq_some_iff.1 h4).1
  exact ⟨f, c, cs, h1, h2, h3, h6, (hb.block g hg).trans h4, fun j x hx => (hb.cell hg).trans (h5 j x hx)⟩

theorem MidS.kept {w w' : World} {g : Nat} {v : Value} {l : List Int} {row : Option Nat} (h : MidS w g v l) (hg : w.grownBy w' row) (hne : some g ≠ row) : MidS w' g v l := by
  obtain ⟨f, c, cs, h1, h2, h3, h6, h4, h5⟩ := h
  have hlt := (Array.getElem?_eq_some_iff.1 h4).1
  exact ⟨f, c, cs, h1, h2, h3, h6, (hg.block g hlt hne).trans h4, fun j x hx => (World.cell?_of_block (hg.block g hlt hne)).trans (h5 j x hx)⟩

theorem setCells_blockS {T : TypeId} (g : Nat) : ∀ (vs : List Value) (f : Nat) (w : World) (cs : Array Value), w.heap[g]? = some (.cells cs T) → ∃ cs', (w.setCells g f vs).heap[g]? = some (.cells cs' T) ∧ cs'.size = cs.size
  | [], _, _, cs, h => ⟨cs, h, rfl⟩
  | v :: vs, f, w, cs, h => by
    rw [World.setCells]
    obtain ⟨cs', h1, h2⟩ := setCells_blockS g vs (f + 1) _ _ (heap_setCell_same w g f cs T v h)
    exact ⟨cs', h1, by rw [h2]; simp⟩

theorem midS_del {w : World} {g f c q k : Nat} {cs : Array Value} {l : List Int} (hk : k < l.length) (h2 : l.length ≤ c) (h3 : c ≤ maxLen) (h6 : f + c ≤ cs.size) (h4 : w.heap[g]? = some (.cells cs 3)) (h5 : ∀ j x, l[j]? = some x → w.cell? ⟨g, f + j, none⟩ = some (.int .i64 x)) :
    MidS ((w.drewN q).setCells g f ((l.eraseIdx k ++ [0]).map (Value.int .i64))) g (.slice (some ⟨g, f, none⟩) (l.eraseIdx k).length c) (l.eraseIdx k) := by
  have h4' : (w.drewN q).heap[g]? = some (.cells cs 3) := h4
  obtain ⟨cs', hcs, hss⟩ := setCells_blockS g ((l.eraseIdx k ++ [0]).map (Value.int .i64)) f (w.drewN q) cs h4'
  have hlen := List.length_eraseIdx_of_lt hk
  refine ⟨f, c, cs', rfl, by omega, h3, by omega, hcs, fun j x hx => ?_⟩
  have hth : (w.drewN q).there g f ((l.eraseIdx k ++ [0]).map (Value.int .i64)).length := fun j hj => by
    have hj2 : j < l.length := by simp [hlen] at hj; omega
    refine ⟨?_, by simp [World.frozen?, h4]⟩
    have := h5 j l[j] (List.getElem?_eq_getElem hj2)
    show (w.cell? ⟨g, f + j, none⟩).isSome = true
    rw [this]; rfl
  have hj : j < (l.eraseIdx k).length := (List.getElem?_eq_some_iff.1 hx).1
  refine World.rangeAt_setCells_same _ g f _ hth j (.int .i64 x) ?_
  rw [List.getElem?_map, List.getElem?_append_left hj, hx]
  rfl

def TkRelS (w w0 : World) (es : List Ent) (g N : Nat) (goal : List Int × List Int) (v7 v8 : Value) (wr : World) : Prop :=
  ∃ run rest, 1 ≤ run.length ∧ run.length + rest.length = N ∧ Ints wr w.heap.size v7 run ∧ MidS wr g v8 rest ∧ grab es run rest = goal ∧ Below w0.heap.size w0 wr ∧ w.grownBy wr (some g)

theorem midS_drop {w : World} {g f c n : Nat} {cs : Array Value} {l : List Int} (hn : n ≤ l.length) (h2 : l.length ≤ c) (h3 : c ≤ maxLen) (h6 : f + c ≤ cs.size) (h4 : w.heap[g]? = some (.cells cs 3)) (h5 : ∀ j x, l[j]? = some x → w.cell? ⟨g, f + j, none⟩ = some (.int .i64 x)) :
    MidS w g (.slice (some ⟨g, f + n, none⟩) (l.length - n) (c - n)) (l.drop n) := by
  refine ⟨f + n, c - n, cs, by rw [List.length_drop], by rw [List.length_drop]; omega, by omega, by omega, h4, fun j x hx => ?_⟩
  rw [List.getElem?_drop] at hx
  rw [Nat.add_assoc]
  exact h5 (n + j) x hx

set_option maxRecDepth 100000 in
set_option maxHeartbeats 8000000 in
theorem takeRun_rowS (w w0 : World) (B g f c : Nat) (cs : Array Value) (ve : Value) (es : List Ent) (l : List Int) (hb0 : Below w0.heap.size w0 w) (hE : Ents w0 B ve es) (hn : es.length ≤ 1048576) (hr : ∀ e ∈ es, e.runes.length ≤ 1048576) (ht : Tabs3 w0)
    (hg0 : w0.heap.size ≤ g) (h1 : 1 ≤ l.length) (hl : l.length ≤ 3000) (h2 : l.length ≤ c) (h3 : c ≤ maxLen) (hfc : f + c ≤ cs.size) (h4 : w.heap[g]? = some (.cells cs 3)) (h5 : ∀ j x, l[j]? = some x → w.cell? ⟨g, f + j, none⟩ = some (.int .i64 x)) :
    Calls Tryz.prog 78 #[ve, .slice (some ⟨g, f, none⟩) l.length c] w fun e w' => ∃ vr vq, e = .returned (.tuple #[vr, vq]) ∧ Ints w' w.heap.size vr (take4 es l).1 ∧ MidS w' g vq (take4 es l).2 ∧ Below w0.heap.size w0 w' ∧ w.grownBy w' (some g) := by
  obtain ⟨i0, hi, hzz, hz1, hz2⟩ := info_parts info_int
  have hg : g < w.heap.size := (Array.getElem?_eq_some_iff.1 h4).1
  have RF := runAt_any w B g f c ve es l (hE.below hb0) hn hr hg h1 hl h2 h5
  obtain ⟨bd1, bd2, bd3⟩ := runN_bd (es := es) h1
  obtain ⟨goal, HG⟩ : ∃ goal, Hid (take4 es l = goal) := ⟨_, rfl⟩
  have HGR : Hid (grab es (l.take (runN es l)) (l.drop (runN es l)) = goal) := HG.out
  rw [HG.out]
  clear HG
  generalize runN es l = n at *
  obtain ⟨va, vn, vc, hve⟩ : ∃ a n c, ve = .slice a n c := by
    rcases hE.form with ⟨rfl, _⟩ | ⟨_, _, rfl, _, _, _, _⟩
    · exact ⟨_, _, _, rfl⟩
    · exact ⟨_, _, _, rfl⟩
  subst hve
  have HE : Hid (Ents _ _ _ _) := hE
  have HT : Hid (Tabs3 _) := ht
  have HB0 : Hid (Below _ _ _) := hb0
  have H5 : Hid (∀ j x, l[j]? = some x → w.cell? ⟨g, f + j, none⟩ = some (.int .i64 x)) := h5
  have H4 : Hid (w.heap[g]? = some (.cells cs 3)) := h4
  have hnc : n ≤ c := by omega
  clear hE ht hb0 h5 h4
  go_enter Tryz.func78, Tryz.ntmps78
  go_wp2_with fail
  refine RF.mono ?_
  rintro e w1 ⟨rfl, b1⟩
  clear RF
  have CLN := fun (u : World) (hu : Below w1.heap.size w1 u) => clone_at u g f c (l.take n) (by rw [List.length_take]; omega) (fun j x hx => by
    have hjn : j < n := by
      have := (List.getElem?_eq_some_iff.1 hx).1
      rw [List.length_take] at this
      omega
    rw [List.getElem?_take_of_lt hjn] at hx
    rw [hu.cell (Nat.lt_of_lt_of_le hg b1.size), b1.cell hg]
    exact H5.out j x hx)
  rw [show (l.take n).length = n by rw [List.length_take]; omega] at CLN
  go_upto_region 2 with fail
  go_cut [7, 8] from 14 to 20 (fun v7 v8 wx => Ints wx w1.heap.size v7 (l.take n) ∧ v8 = .slice (if c = n then some ⟨g, f, none⟩ else some ⟨g, f + n, none⟩) (l.length - n) (c - n) ∧ Below w1.heap.size w1 wx)
  case first =>
    by_cases hcn : c = n
    · subst hcn
      go_region_with (go_at_call 81; refine (CLN _ (by repeat (first | exact Below.refl _ _ | refine Below.drew ?_))).mono ?_; rintro e u6 ⟨v6, rfl, i6, b6⟩)
      all_goals
        have hK : Ints u6 w1.heap.size v6 (l.take c) ∧ Below w1.heap.size w1 u6 := ⟨i6, by first | exact b6 | exact ((Below.refl _ _).drew).trans b6⟩
        clear i6 b6 CLN
        go_wp2_with fail
        go_meet
        case rel => exact ⟨hK.1, by simp; omega, hK.2⟩
    · have hcn2 : (c == n) = false := by simpa using hcn
      go_region_with (go_at_call 81; refine (CLN _ (by repeat (first | exact Below.refl _ _ | refine Below.drew ?_))).mono ?_; rintro e u6 ⟨v6, rfl, i6, b6⟩)
      all_goals
        have hK : Ints u6 w1.heap.size v6 (l.take n) ∧ Below w1.heap.size w1 u6 := ⟨i6, by first | exact b6 | exact ((Below.refl _ _).drew).trans b6⟩
        clear i6 b6 CLN
        go_wp2_with fail
        go_meet
        case rel => exact ⟨hK.1, by rw [if_neg hcn], hK.2⟩
  case rest =>
    obtain ⟨i7, rfl, bc⟩ := hcut
    clear CLN
    have b1' : Below w0.heap.size w0 w1 := HB0.out.trans (b1.mono HB0.out.size)
    have bw : Below w.heap.size w wc := b1.trans (bc.mono b1.size)
    have b0c : Below w0.heap.size w0 wc := b1'.trans (bc.mono b1'.size)
    have H4c : wc.heap[g]? = some (.cells cs 3) := (bw.block g hg).trans H4.out
    have H5c : ∀ j x, l[j]? = some x → wc.cell? ⟨g, f + j, none⟩ = some (.int .i64 x) := fun j x hx => (bw.cell hg).trans (H5.out j x hx)
    have hM : MidS wc g (.slice (if c = n then some ⟨g, f, none⟩ else some ⟨g, f + n, none⟩) (l.length - n) (c - n)) (l.drop n) := by
      by_cases hcn : c = n
      · have hd : l.drop n = [] := List.drop_eq_nil_of_le (by omega)
        rw [if_pos hcn, hd, show l.length - n = 0 by omega]
        exact ⟨f, c - n, cs, rfl, Nat.zero_le _, by omega, by omega, H4c, fun j x hx => by simp at hx⟩
      · rw [if_neg hcn]
        exact midS_drop bd2 h2 h3 hfc H4c H5c
    have hst : TkRelS w w0 es g l.length goal u7 (.slice (if c = n then some ⟨g, f, none⟩ else some ⟨g, f + n, none⟩) (l.length - n) (c - n)) wc :=
      ⟨l.take n, l.drop n, by rw [List.length_take]; omega, by rw [List.length_take, List.length_drop]; omega, ints_low2 i7 b1.size, hM, HGR.out, b0c, ⟨bw.os, bw.tape, bw.output, bw.size, fun k hk _ => bw.block k hk⟩⟩
    have HST : Hid (TkRelS _ _ _ _ _ _ _ _ _) := hst
    clear hst hM H4c H5c b0c bw b1' i7 bc b1 HGR H4 H5 HB0
    generalize (Value.slice (if c = n then some ⟨g, f, none⟩ else some ⟨g, f + n, none⟩) (l.length - n) (c - n)) = v8 at *
    go_wp2_with fail
    go_loopw [7, 8] (fun v7 v8 wr => TkRelS w w0 es g l.length goal v7 v8 wr) (fun _ v8 _ => sliceLen v8)
    case atStart => exact HST.out
    case round =>
      clear HST
      obtain ⟨run, rest, hr1, hrl, j7, j8, hgr, jb, jg⟩ := hrel
      have MI := markInto_any HE.out hn hr HT.out jb j7 j8.midG hr1 (by omega)
      have hl8 := j8.len
      have HGR : Hid (grab es run rest = goal) := hgr
      have HJB : Hid (Below _ _ _) := jb
      have HJG : Hid (World.grownBy _ _ _) := jg
      have H7 : Hid (Ints _ _ _ _) := j7
      have H8 : Hid (MidS _ _ _ _) := j8
      clear hgr jb jg j7 j8
      rcases mark_cases es run rest with hmk | ⟨k, hkl, hmk⟩
      · rw [hmk] at MI
        have HF : Hid (goal = (run, rest)) := by show _ = _; rw [← HGR.out]; exact grab_stop hmk
        clear HGR hmk
        unfold ansV at MI
        simp only [show (-1 : Int) < 0 from by decide, if_true, show decide ((0 : Int) ≤ -1) = false from rfl] at MI
        go_wp2_with fail
        refine MI.mono ?_
        rintro e w2 ⟨rfl, b2⟩
        clear MI
        go_wp2
        go_ret2
        rw [HF.out]
        exact ⟨_, _, rfl, H7.out.below b2, H8.out.below b2, HJB.out.trans (b2.mono HJB.out.size), HJG.out.trans ⟨b2.os, b2.tape, b2.output, b2.size, fun k hk _ => b2.block k hk⟩⟩
      · obtain ⟨x, hx⟩ : ∃ x, rest[k]? = some x := ⟨_, List.getElem?_eq_getElem hkl⟩
        have HF : Hid (grab es (run ++ [x]) (rest.eraseIdx k) = goal) := by
          show _ = _
          rw [← HGR.out, grab_go hkl hmk]
          unfold at0
          rw [hx]
          rfl
        rw [hmk] at MI
        clear HGR hmk
        unfold ansV at MI
        simp only [show ¬ ((k : Int) < 0) from by omega, if_false, show decide ((0 : Int) ≤ (k : Int)) = true from decide_eq_true (by omega)] at MI
        obtain ⟨f8, c8, cs8, h81, h82, h83, hfc8, h84, h85⟩ := H8.out
        subst h81
        have hgr : g < wr.heap.size := (Array.getElem?_eq_some_iff.1 h84).1
        have hk8 : (k : Int) < (rest.length : Int) := by omega
        go_wp2_with fail
        refine MI.mono ?_
        rintro e w2 ⟨rfl, b2⟩
        clear MI
        have hcx : w2.cell? ⟨g, f8 + k, none⟩ = some (.int .i64 x) := (b2.cell hgr).trans (h85 k x hx)
        have H82 : Hid (w2.heap[g]? = some (.cells cs8 3)) := (b2.block g hgr).trans h84
        have H85 : Hid (∀ j x, rest[j]? = some x → w2.cell? ⟨g, f8 + j, none⟩ = some (.int .i64 x)) := fun j x hx => (b2.cell hgr).trans (h85 j x hx)
        have i72 : Ints w2 w.heap.size u7 run := H7.out.below b2
        have b02 : Below w0.heap.size w0 w2 := HJB.out.trans (b2.mono HJB.out.size)
        have g02 : w.grownBy w2 (some g) := HJG.out.trans ⟨b2.os, b2.tape, b2.output, b2.size, fun k hk _ => b2.block k hk⟩
        have hsz2 : w.heap.size ≤ w2.heap.size := g02.size
        have HB02 : Hid (Below _ _ _) := b02
        have HG02 : Hid (World.grownBy _ _ _) := g02
        have hgw2 : g < w2.heap.size := Nat.lt_of_lt_of_le hgr b2.size
        clear h84 h85 H7 H8 HJB HJG b2 b02 g02 hgr hx
        unfold Ints at i72
        go_wp2_with (at_builtin; refine wpList_append_own _ rfl _ _ 35 rfl w.heap.size 3 i0 (.int .i64 0) 1 8 Tryz.underlying35 hi hzz hz1 hz2 rfl (by decide) _ _ _ rfl (i72.alloc _) ⟨w2.heap.size, 0, none⟩ 1 1 [.int .i64 x] rfl rfl (cells1_new _ _ _ _ (by simp)) (fun u hu => by simp at hu; subst hu; rfl) (by unfold maxLen; omega) (by omega) (by simp; omega) ?_)
        intro v7' w4 ho4 hg4 _
        have i74 : Ints w4 w.heap.size v7' (run ++ [x]) := Ints.snoc ho4
        have hne : some g ≠ u7.ownBlock := fun e => by have := (World.ownsRow.lt i72 g e.symm).1; omega
        have h44 : w4.heap[g]? = some (.cells cs8 3) := (hg4.block g (by simp; omega) hne).trans ((Below.heap_alloc _ _ _ hgw2).trans H82.out)
        have h45 : ∀ j x, rest[j]? = some x → w4.cell? ⟨g, f8 + j, none⟩ = some (.int .i64 x) := fun j y hy => by
          rw [World.cell?_of_block ((hg4.block g (by simp; omega) hne).trans (Below.heap_alloc _ _ _ hgw2))]
          exact H85.out j y hy
        have b04 : Below w0.heap.size w0 w4 := Below.grown (HB02.out.alloc HB02.out.size _) hg4 (HB02.out.alloc HB02.out.size _).size (fun j hj => Nat.le_trans (Nat.le_trans hg0 (Nat.le_of_lt hg)) (World.ownsRow.lt i72 j hj).1)
        have g04 : w.grownBy w4 (some g) := by
          refine ⟨hg4.os.trans HG02.out.os, hg4.tape.trans HG02.out.tape, hg4.output.trans HG02.out.output, Nat.le_trans hsz2 (Nat.le_trans (by simp) hg4.size), fun k hk hkn => ?_⟩
          have hk2 : k < w2.heap.size := Nat.lt_of_lt_of_le hk hsz2
          rw [hg4.block k (by simp; omega) (fun e => by have := (World.ownsRow.lt i72 k e.symm).1; omega), Below.heap_alloc _ _ _ hk2]
          exact HG02.out.block k hk hkn
        have DEL := delete_at w4 g f8 c8 k rest hkl h82 h83 h45 (fun j => by simp [World.frozen?, h44])
        have HMD := fun q => midS_del (q := q) hkl h82 h83 hfc8 h44 h45
        have HMD' : Hid (∀ q, MidS ((w4.drewN q).setCells g f8 ((rest.eraseIdx k ++ [0]).map (Value.int .i64))) g (.slice (some ⟨g, f8, none⟩) (rest.eraseIdx k).length c8) (rest.eraseIdx k)) := HMD
        have hlen := List.length_eraseIdx_of_lt hkl
        have H74 : Hid (Ints _ _ _ _) := i74
        have HB04 : Hid (Below _ _ _) := b04
        have HG04 : Hid (World.grownBy _ _ _) := g04
        clear ho4 hg4 h44 h45 HMD i74 b04 g04 i72 HB02 HG02 H82 H85 hcx
        go_wp2_with fail
        refine DEL.mono ?_
        rintro e w5 ⟨rfl, q, rfl⟩
        clear DEL
        go_wp2
        refine ⟨⟨run ++ [x], rest.eraseIdx k, by simp, by rw [List.length_append]; simp; omega, ?_, (by have hq := HMD'.out q; rw [List.map_append, hlen] at hq; exact hq), HF.out, ?_, HG04.out.trans (setCells_grown w4 q g f8 _)⟩, ?_⟩
        · refine World.ownsRow.kept H74.out (setCells_grown w4 q g f8 _) ?_
          cases hv : v7'.ownBlock with
          | none => exact .inl rfl
          | some j => exact .inr fun c => by have := (World.ownsRow.lt H74.out j hv).1; have := Option.some.inj c; omega
        · exact Below.grown HB04.out (setCells_grown w4 q g f8 _) HB04.out.size (fun j hj => by cases hj; exact hg0)
        · show sliceLen _ < sliceLen _
          simp [sliceLen]
          omega
end Go.Proofs.YtinjldagfhbioaaGreatDoor

namespace Go.Proofs.YtinjldagfhbioaaGreatDoor
open Go.RowKit

theorem wts_firstsE (sh : Bool) (xs : List El) : wts 1 (counted sh xs) (fourths sh xs) = firstsE sh xs := by
  unfold wts firstsE
  rw [wtsK_firsts _ _ _ (Nat.le_refl _), List.take_length]
  have h := fourS_firsts sh xs xs.length (Nat.le_refl _)
  rw [List.take_length] at h
  have e1 : (counted sh xs).flatMap (fun e => ifNot e.first) = ((counted sh xs).map El.first).flatMap ifNot := by rw [List.flatMap_map]
  have e2 : xs.flatMap (fun e => ifNot (fw sh e)) = (xs.map (fw sh)).flatMap ifNot := by rw [List.flatMap_map]
  rw [e1, e2]
  congr 1

set_option maxRecDepth 100000 in
set_option maxHeartbeats 4000000 in
theorem alone_any {w : World} {B : Nat} {v : Value} {xs : List El} (sh : Bool) (hz : xs.length ≤ 1000) (hE : Elems w B v xs) :
    Calls Tryz.prog 80 #[v, .bool sh] w fun e w' => ∃ v', e = .returned v' ∧ Ints w' w.heap.size v' (firstsE sh xs) ∧ Below w.heap.size w w' := by
  have FO := implFourth_ok sh hz hE
  rw [← wts_firstsE]
  have hcl := counted_len sh xs
  have hfl := fourths_len sh xs
  have HFC : Hid ((fourths sh xs).length = (counted sh xs).length) := by show _ = _; omega
  have hcn : (counted sh xs).length ≤ 1048576 := by omega
  obtain ⟨va, vc, rfl⟩ := els_form hE
  generalize counted sh xs = cs at *
  generalize fourths sh xs = fs at *
  clear hE hcl hfl
  go_enter Tryz.func80, Tryz.ntmps80
  go_wp2_with fail
  refine FO.mono ?_
  rintro e w1 ⟨v1, v2, rfl, i1, e1, b1⟩
  obtain ⟨a1, k1, rfl⟩ := ints_form i1
  obtain ⟨a2, k2, rfl⟩ := els_form e1
  have WT := weights1_any e1 i1 HFC.out hcn
  have HB1 : Hid (Below _ _ _) := b1
  clear FO i1 e1 b1
  go_wp2_with fail
  refine WT.mono ?_
  rintro e w3 ⟨v3, rfl, i3, b3⟩
  have HI3 : Hid (Ints _ _ _ _) := i3
  clear WT i3
  go_wp2
  go_ret
  exact ⟨_, rfl, low_ints HI3.out HB1.out.size, HB1.out.trans (b3.mono HB1.out.size)⟩
end Go.Proofs.YtinjldagfhbioaaGreatDoor

namespace Go.Proofs.YtinjldagfhbioaaGreatDoor
open Go.RowKit

theorem wp_append_at {w : World} {o : Oper} {a : Act} {K : Act → World → Prop} {Q : Exit → Act → World → Prop} (s x : Operand)
    (ho : o.op = .call { callee := .builtin .append, args := #[s, x], argTypes := #[35, 35] }) (B : Nat) (v vx : Value) (l l' : List Int) (hs : a.eval s = v) (hx : a.eval x = vx) (hI : Ints w B v l) (hR : RowAt w vx l')
    (h63 : l.length + l'.length ≤ 1048576) (hbase : B ≤ w.heap.size) (h : ∀ v' w', Ints w' B v' (l ++ l') → w.grownBy w' v.ownBlock → (∀ j, v'.ownBlock = some j → v.ownBlock = some j ∨ w.heap.size ≤ j) → K (a.put o.dst v') w') : Oper.wp Tryz.prog o a w K Q := by
  obtain ⟨i0, hi, hzz, hz1, hz2⟩ := info_parts info_int
  have app : ∀ (ad : Addr) (c : Nat), vx = .slice (some ad) l'.length c → (∀ j u, (l'.map (Value.int .i64))[j]? = some u → w.cell? (ad.add j) = some u) → Oper.wp Tryz.prog o a w K Q := fun ad c hv hc => by
    obtain ⟨v', w', hr, h1, h2, _, h5⟩ := run_append_own_at (P := Tryz.prog) w B 35 o.type 3 i0 (.int .i64 0) 1 8 Tryz.underlying35 hi hzz hz1 hz2 rfl (by decide) v l.length (l.map (Value.int .i64)) hI ad l'.length c (l'.map (Value.int .i64)) (by simp) hc (fun u hu => by obtain ⟨y, _, rfl⟩ := List.mem_map.1 hu; rfl) (by unfold maxLen; omega) (by omega) hbase
    have h6 : ∀ j, v'.ownBlock = some j → v.ownBlock = some j ∨ w.heap.size ≤ j := fun j hj => by
      rcases h5 with h5 | h5
      · exact .inl (h5.symm.trans hj)
      · exact .inr (Nat.le_of_eq (Option.some.inj (h5.symm.trans hj)))
    refine Go.Lib.wp_append_run w s x 35 35 ho _ _ hs (hx.trans hv) _ _ hr (h v' w' ?_ h2 h6)
    unfold Ints
    rw [List.length_append, List.map_append]
    exact h1
  rcases hR with ⟨b, c, hv, rfl⟩ | ⟨g, f, c, hv, _, hc⟩
  · cases b with
    | none =>
      obtain ⟨b, n, c', rfl, hnc⟩ : ∃ b n c, v = .slice b n c ∧ n ≤ c := by
        rcases hI.form with ⟨rfl, rfl⟩ | ⟨g, cap, rfl, h1, _⟩
        · exact ⟨_, _, _, rfl, Nat.le_refl _⟩
        · exact ⟨_, _, _, rfl, h1⟩
      refine Go.Lib.wp_append_run w s x 35 35 ho _ _ hs (hx.trans hv) _ _ (run_append_none1 w _ _ _ i0 Tryz.underlying35 hi b n c' c hnc) ?_
      refine h _ _ ?_ ⟨rfl, rfl, rfl, Nat.le_refl _, fun _ _ _ => rfl⟩ (fun _ hj => .inl hj)
      rw [List.append_nil]
      exact hI
    | some ad => exact app ad c hv (fun j u hj => by simp at hj)
  · refine app ⟨g, f, none⟩ c hv fun j u hj => ?_
    rw [List.getElem?_map, Option.map_eq_some_iff] at hj
    obtain ⟨y, hy, rfl⟩ := hj
    rw [Addr.add_mid]
    exact hc j y hy

theorem step_append_at {w : World} {ops : Array Oper} {o : Oper} {a : Act} {K : Act → World → Prop} {Q : Exit → Act → World → Prop} {E : Prop} (hgd : o.guard = none) (s x : Operand)
    (ho : o.op = .call { callee := .builtin .append, args := #[s, x], argTypes := #[35, 35] }) (B : Nat) (v vx : Value) (l l' : List Int) (hs : a.eval s = v) (hx : a.eval x = vx) (hI : Ints w B v l) (hR : RowAt w vx l')
    (h63 : l.length + l'.length ≤ 1048576) (hbase : B ≤ w.heap.size) (h : ∀ v' w', Ints w' B v' (l ++ l') → w.grownBy w' v.ownBlock → (∀ j, v'.ownBlock = some j → v.ownBlock = some j ∨ w.heap.size ≤ j) → K (a.put o.dst v') w') :
    if Region.wanted o (yielded ops a.tmps) = true then Oper.wp Tryz.prog o a w K Q else E := by
  rw [if_pos (by simp [Region.wanted, hgd])]
  exact wp_append_at s x ho B v vx l l' hs hx hI hR h63 hbase h

/-- What is left: nil, or a row in a block of the call's own, with its room. -/
def RestS (w : World) (B : Nat) (v : Value) (l : List Int) : Prop := (v = .slice none 0 0 ∧ l = []) ∨ ∃ g, B ≤ g ∧ v.ownBlock = some g ∧ MidS w g v l

theorem RestS.below {w w' : World} {B : Nat} {v : Value} {l : List Int} (h : RestS w B v l) (hb : Below w.heap.size w w') : RestS w' B v l := by
  rcases h with h | ⟨g, h1, h2, h3⟩
  · exact .inl h
  · exact .inr ⟨g, h1, h2, h3.below hb⟩

theorem RestS.kept {w w' : World} {B : Nat} {v : Value} {l : List Int} {row : Option Nat} (h : RestS w B v l) (hg : w.grownBy w' row) (hne : v.ownBlock = none ∨ v.ownBlock ≠ row) : RestS w' B v l := by
  rcases h with h | ⟨g, h1, h2, h3⟩
  · exact .inl h
  · refine .inr ⟨g, h1, h2, h3.kept hg ?_⟩
    rw [h2] at hne
    rcases hne with h | h
    · cases h
    · exact h

theorem midS_of_ints {w : World} {B : Nat} {v : Value} {l : List Int} (h : Ints w B v l) : RestS w B v l := by
  rcases h.2 with ⟨a, b⟩ | ⟨g, cap, cur, a, b, c, d, e, f, _⟩
  · exact .inl ⟨a, by simpa using b⟩
  · subst a
    refine .inr ⟨g, b, rfl, 0, cap, cur, rfl, d, e, ?_, c, fun j x hx => ?_⟩
    · have := f
      omega
    · have hj := (List.getElem?_eq_some_iff.1 hx).1
      rw [Nat.zero_add, h.cell j hj, hx]
      rfl

theorem wp_append_mid {w : World} {o : Oper} {a : Act} {K : Act → World → Prop} {Q : Exit → Act → World → Prop} (s x : Operand)
    (ho : o.op = .call { callee := .builtin .append, args := #[s, x], argTypes := #[35, 35] }) (B : Nat) (v : Value) (l l' : List Int) (gx fx cx : Nat) (hgx : gx < w.heap.size) (hs : a.eval s = v) (hx : a.eval x = .slice (some ⟨gx, fx, none⟩) l'.length cx) (hI : RestS w B v l) (hc : ∀ j y, l'[j]? = some y → w.cell? ⟨gx, fx + j, none⟩ = some (.int .i64 y))
    (h63 : l.length + l'.length ≤ 1048576) (hbase : B ≤ w.heap.size) (h : ∀ v' w', RestS w' B v' (l ++ l') → w.grownBy w' v.ownBlock → (∀ j, v'.ownBlock = some j → v.ownBlock = some j ∨ w.heap.size ≤ j) → K (a.put o.dst v') w') : Oper.wp Tryz.prog o a w K Q := by
  obtain ⟨i0, hi, hzz, hz1, hz2⟩ := info_parts info_int
  have hnews : ∀ j u, (l'.map (Value.int .i64))[j]? = some u → w.cell? ((⟨gx, fx, none⟩ : Addr).add j) = some u := fun j u hj => by
    rw [List.getElem?_map, Option.map_eq_some_iff] at hj
    obtain ⟨y, hy, rfl⟩ := hj
    rw [Addr.add_mid]
    exact hc j y hy
  have hone : ∀ u ∈ l'.map (Value.int .i64), u.oneCell' = true := fun u hu => by obtain ⟨y, _, rfl⟩ := List.mem_map.1 hu; rfl
  rcases hI with ⟨rfl, rfl⟩ | ⟨g, hB, hob, f, c, cs, rfl, h2, h3, h6, h4, h5⟩
  · refine wp_append_at s x ho B _ _ [] l' hs hx ⟨rfl, .inl ⟨rfl, rfl⟩⟩ (.inr ⟨gx, fx, cx, rfl, hgx, hc⟩) h63 hbase fun v' w' q1 q2 q3 => h v' w' (midS_of_ints q1) q2 q3
  · by_cases hr : l.length + l'.length ≤ c
    · have hsp : ∀ j, j < (l'.map (Value.int .i64)).length → (w.cell? ⟨g, f + l.length * i0.size + j, none⟩).isSome = true ∧ w.frozen? ⟨g, f + l.length * i0.size + j, none⟩ = false := fun j hj => by
        rw [List.length_map] at hj
        rw [hz1, Nat.mul_one]
        refine ⟨?_, by simp [World.frozen?, h4]⟩
        have : f + l.length + j < cs.size := by omega
        simp [World.cell?, h4, this]
      have hrun := run_append_room_cells (P := Tryz.prog) w 35 o.type 3 i0 Tryz.underlying35 hi g f l.length c ⟨gx, fx, none⟩ l'.length cx (l'.map (Value.int .i64)) (by rw [hz1]; simp) hnews hone hr (fun j hj => (hsp j hj).1) (fun j hj => (hsp j hj).2)
      rw [hz1, Nat.mul_one] at hrun
      refine Go.Lib.wp_append_run w s x 35 35 ho _ _ hs hx _ _ hrun (h _ _ ?_ (setCells_grown w 0 g _ _) (fun _ hj => .inl hj))
      obtain ⟨cs', q1, q2⟩ := setCells_blockS g (l'.map (Value.int .i64)) (f + l.length) w cs h4
      refine .inr ⟨g, hB, rfl, f, c, cs', by rw [List.length_append], by rw [List.length_append]; exact hr, h3, by omega, q1, fun j y hy => ?_⟩
      by_cases hj : j < l.length
      · rw [List.getElem?_append_left hj] at hy
        rw [World.cell?_setCells_out g _ _ _ _ (fun _ _ => .inl (by show f + j < f + l.length; omega))]
        exact h5 j y hy
      · rw [List.getElem?_append_right (by omega)] at hy
        have hj2 := (List.getElem?_eq_some_iff.1 hy).1
        have hin := World.cell?_setCells_in g (l'.map (Value.int .i64)) (f + l.length) w (fun k hk => by have := (hsp k hk).1; rw [hz1, Nat.mul_one] at this; exact this) (j - l.length) (by rw [List.length_map]; exact hj2)
        rw [show f + j = f + l.length + (j - l.length) by omega, hin, List.getElem_map]
        rw [List.getElem?_eq_getElem hj2] at hy
        rw [Option.some.inj hy]
    · obtain ⟨v', w', hrun, r1, r2⟩ := run_append_arg_grows (P := Tryz.prog) w 35 o.type 3 i0 (.int .i64 0) 1 8 Tryz.underlying35 hi hzz hz1 hz2 rfl (by decide) ⟨g, f, none⟩ l.length c (l.map (Value.int .i64)) (by simp) (fun j u hj => by
          rw [List.getElem?_map, Option.map_eq_some_iff] at hj
          obtain ⟨y, hy, rfl⟩ := hj
          rw [Addr.add_mid]
          exact h5 j y hy) ⟨gx, fx, none⟩ l'.length cx (l'.map (Value.int .i64)) (by simp) hnews (by omega) (by unfold maxLen; omega) (by omega)
      have hI' : Ints w' w.heap.size v' (l ++ l') := by
        unfold Ints
        rw [List.length_append, List.map_append]
        exact r1
      refine Go.Lib.wp_append_run w s x 35 35 ho _ _ hs hx _ _ hrun (h v' w' ?_ ⟨r2.os, r2.tape, r2.output, r2.size, fun k hk _ => r2.block k hk (by simp)⟩ fun j hj => .inr (World.ownsRow.lt r1 j hj).1)
      rcases midS_of_ints hI' with q | ⟨j, q1, q2, q3⟩
      · exact .inl q
      · exact .inr ⟨j, Nat.le_trans hbase q1, q2, q3⟩

theorem append_mid {w : World} {ops : Array Oper} {rest : List Oper} {o : Oper} {a : Act} {Q : Exit → Act → World → Prop} (hgd : o.guard = none) (s x : Operand)
    (ho : o.op = .call { callee := .builtin .append, args := #[s, x], argTypes := #[35, 35] }) (B : Nat) (v : Value) (l l' : List Int) (gx fx cx : Nat) (hgx : gx < w.heap.size) (hs : a.eval s = v) (hx : a.eval x = .slice (some ⟨gx, fx, none⟩) l'.length cx) (hI : RestS w B v l) (hc : ∀ j y, l'[j]? = some y → w.cell? ⟨gx, fx + j, none⟩ = some (.int .i64 y))
    (h63 : l.length + l'.length ≤ 1048576) (hbase : B ≤ w.heap.size) (h : ∀ v' w', RestS w' B v' (l ++ l') → w.grownBy w' v.ownBlock → (∀ j, v'.ownBlock = some j → v.ownBlock = some j ∨ w.heap.size ≤ j) → wpList Tryz.prog ops Q rest (a.put o.dst v') w') : wpList Tryz.prog ops Q (o :: rest) a w :=
  wpList_plain hgd fun _ hK => wp_append_mid s x ho B v l l' gx fx cx hgx hs hx hI hc h63 hbase fun v' w' h1 h2 h3 => hK _ _ (h v' w' h1 h2 h3)
end Go.Proofs.YtinjldagfhbioaaGreatDoor

namespace Go.Proofs.YtinjldagfhbioaaGreatDoor
open Go.RowKit

/-- A stretch: what is settled and what is left, in memory of the call's own. -/
def Str (wb w : World) (b : Nat) (ve : Value) (sh : Bool) (lv : Int) (vs vr : Value) (st rest : List Int) : Prop :=
  wb.heap.size ≤ b ∧ w.heap[b]? = some (.cells #[ve, .bool sh, .int .i64 lv, vs, vr] 106) ∧ Ints w wb.heap.size vs st ∧ RestS w wb.heap.size vr rest ∧ (vs.ownBlock = none ∨ vs.ownBlock ≠ vr.ownBlock) ∧ Below wb.heap.size wb w

theorem ints_neS {w : World} {B b : Nat} {v : Value} {l : List Int} {cs : Array Value} (h : Ints w B v l) (hb : w.heap[b]? = some (.cells cs 106)) : some b ≠ v.ownBlock := by
  rcases h.2 with ⟨rfl, _⟩ | ⟨g', cap, cur, rfl, _, h3, _⟩
  · exact fun e => by cases e
  · intro e
    have e2 : b = g' := Option.some.inj e
    subst e2
    rw [hb] at h3
    injection h3 with h4
    injection h4 with _ h5
    exact absurd h5 (by decide)

theorem rest_ne {w : World} {B b : Nat} {v : Value} {l : List Int} {cs : Array Value} (h : RestS w B v l) (hb : w.heap[b]? = some (.cells cs 106)) : some b ≠ v.ownBlock := by
  rcases h with ⟨rfl, _⟩ | ⟨g, _, q, f, c, cs, rfl, _, _, _, h3, _⟩
  · exact fun e => by cases e
  · intro e
    have e2 : b = g := Option.some.inj e
    subst e2
    rw [hb] at h3
    injection h3 with h4
    injection h4 with _ h5
    exact absurd h5 (by decide)

theorem Str.cells {wb w : World} {b : Nat} {ve vs vr : Value} {sh : Bool} {lv : Int} {st rest : List Int} (h : Str wb w b ve sh lv vs vr st rest) :
    w.cell? ⟨b, 0, none⟩ = some ve ∧ w.cell? ⟨b, 1, none⟩ = some (.bool sh) ∧ w.cell? ⟨b, 2, none⟩ = some (.int .i64 lv) ∧ w.cell? ⟨b, 3, none⟩ = some vs ∧ w.cell? ⟨b, 4, none⟩ = some vr ∧ ∀ j, w.frozen? ⟨b, j, none⟩ = false :=
  ⟨cell_of_row _ _ 0 _ _ _ h.2.1, cell_of_row _ _ 1 _ _ _ h.2.1, cell_of_row _ _ 2 _ _ _ h.2.1, cell_of_row _ _ 3 _ _ _ h.2.1, cell_of_row _ _ 4 _ _ _ h.2.1, fun j => by simp [World.frozen?, h.2.1]⟩

/-- The rest is put anew. -/
theorem Str.rest {wb w w1 : World} {b : Nat} {ve vs vr vr' : Value} {sh : Bool} {lv : Int} {st rest rest' : List Int} (h : Str wb w b ve sh lv vs vr st rest) (hr : RestS w1 wb.heap.size vr' rest') (hg : w.grownBy w1 vr.ownBlock) (hn : ∀ j, vr'.ownBlock = some j → vr.ownBlock = some j ∨ w.heap.size ≤ j) :
    Str wb (w1.setCell ⟨b, 4, none⟩ vr') b ve sh lv vs vr' st rest' := by
  obtain ⟨h1, h2, h3, h4, h5, h6⟩ := h
  have hb := (Array.getElem?_eq_some_iff.1 h2).1
  have e1 : w1.heap[b]? = some (.cells #[ve, .bool sh, .int .i64 lv, vs, vr] 106) := (hg.block b hb (rest_ne h4 h2)).trans h2
  have i1 : Ints w1 wb.heap.size vs st := World.ownsRow.kept h3 hg h5
  have gs : w1.grownBy (w1.setCell ⟨b, 4, none⟩ vr') (some b) := setCells_grown w1 0 b 4 [vr']
  have nv : vs.ownBlock = none ∨ vs.ownBlock ≠ vr'.ownBlock := by
    cases hv : vs.ownBlock with
    | none => exact .inl rfl
    | some j =>
      refine .inr fun e => ?_
      rcases hn j e.symm with q | q
      · rcases h5 with c | c
        · rw [hv] at c; cases c
        · exact c (hv.trans q.symm)
      · have := (World.ownsRow.lt h3 j hv).2
        omega
  refine ⟨h1, ?_, World.ownsRow.kept i1 gs (.inr fun e => ints_neS i1 e1 e.symm), hr.kept gs (.inr fun e => rest_ne hr e1 e.symm), nv, ?_⟩
  · have := heap_setCell_same w1 b 4 _ _ vr' e1
    simpa using this
  · refine Below.grown (Below.grown h6 hg h6.size (fun j hj => ?_)) gs (Nat.le_trans h6.size hg.size) (fun j hj => by cases hj; exact h1)
    rcases h4 with ⟨rfl, _⟩ | ⟨g, q, q2, _⟩
    · cases hj
    · rw [q2] at hj; cases hj; exact q

/-- What is settled is put anew. -/
theorem Str.settled {wb w w1 : World} {b : Nat} {ve vs vs' vr : Value} {sh : Bool} {lv : Int} {st st' rest : List Int} (h : Str wb w b ve sh lv vs vr st rest) (hr : Ints w1 wb.heap.size vs' st') (hg : w.grownBy w1 vs.ownBlock) (hn : ∀ j, vs'.ownBlock = some j → vs.ownBlock = some j ∨ w.heap.size ≤ j) :
    Str wb (w1.setCell ⟨b, 3, none⟩ vs') b ve sh lv vs' vr st' rest := by
  obtain ⟨h1, h2, h3, h4, h5, h6⟩ := h
  have hb := (Array.getElem?_eq_some_iff.1 h2).1
  have e1 : w1.heap[b]? = some (.cells #[ve, .bool sh, .int .i64 lv, vs, vr] 106) := (hg.block b hb (ints_neS h3 h2)).trans h2
  have r1 : RestS w1 wb.heap.size vr rest := by
    rcases h4 with q | q
    · exact .inl q
    · refine RestS.kept (.inr q) hg ?_
      rcases h5 with c | c
      · rw [c]
        obtain ⟨g, _, q2, _⟩ := q
        exact .inr fun e => by rw [q2] at e; cases e
      · exact .inr fun e => c e.symm
  have gs : w1.grownBy (w1.setCell ⟨b, 3, none⟩ vs') (some b) := setCells_grown w1 0 b 3 [vs']
  have nv : vs'.ownBlock = none ∨ vs'.ownBlock ≠ vr.ownBlock := by
    cases hv : vs'.ownBlock with
    | none => exact .inl rfl
    | some j =>
      refine .inr fun e => ?_
      rcases hn j hv with q | q
      · rcases h5 with c | c
        · rw [q] at c; cases c
        · exact c (q.trans e)
      · rcases h4 with ⟨rfl, _⟩ | ⟨g, _, q2, f, c, cs, _, _, _, _, h7, _⟩
        · cases e
        · rw [q2] at e
          have e2 := Option.some.inj e
          have := (Array.getElem?_eq_some_iff.1 h7).1
          omega
  refine ⟨h1, ?_, World.ownsRow.kept hr gs (.inr fun e => ints_neS hr e1 e.symm), r1.kept gs (.inr fun e => rest_ne r1 e1 e.symm), nv, ?_⟩
  · have := heap_setCell_same w1 b 3 _ _ vs' e1
    simpa using this
  · exact Below.grown (Below.grown h6 hg h6.size (fun j hj => (World.ownsRow.lt h3 j hj).1)) gs (Nat.le_trans h6.size hg.size) (fun j hj => by cases hj; exact h1)

theorem Str.below {wb w w' : World} {b : Nat} {ve vs vr : Value} {sh : Bool} {lv : Int} {st rest : List Int} (h : Str wb w b ve sh lv vs vr st rest) (hb : Below w.heap.size w w') : Str wb w' b ve sh lv vs vr st rest := by
  obtain ⟨h1, h2, h3, h4, h5, h6⟩ := h
  exact ⟨h1, (hb.block b (Array.getElem?_eq_some_iff.1 h2).1).trans h2, h3.below hb, h4.below hb, h5, h6.trans (hb.mono h6.size)⟩
end Go.Proofs.YtinjldagfhbioaaGreatDoor
