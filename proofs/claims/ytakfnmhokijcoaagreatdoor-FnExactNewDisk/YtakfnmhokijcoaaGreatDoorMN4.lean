/- Texts of mine laid together: IGood3, IBase, IElemOf, One, Rn4, INorm2, Front, OneAt. -/
import Derived.Test.YtakfnmhokijcoaaGreatDoorMN3
import Derived.Deep.RegionHeld3
import Derived.Test.YtakfnmhokijcoaaGreatDoorSRule3
import Derived.Test.YtakfnmhokijcoaaGreatDoorProg
import Derived.Test.YtakfnmhokijcoaaGreatDoorDec
import Derived.WalkKit
import Derived.WalkSpells
import Derived.WalkLawsBesides
import Derived.Test.YtakfnmhokijcoaaGreatDoorNorm2
import Derived.Test.YtakfnmhokijcoaaGreatDoorMN1
namespace Go.Proofs.YtakfnmhokijcoaaGreatDoor
open Go.RowKit

/-- What stands in the region that looks for an entry with the same runes ahead. -/
def Gin (w0 : World) (b1 b4 : Nat) (v x : Value) (u : World) : Prop := u.cell? ⟨b1, 0, none⟩ = some v ∧ u.cell? ⟨b4, 0, none⟩ = some x ∧ Below w0.heap.size w0 u
theorem Gin.keep {w0 w1 w2 : World} {b1 b4 : Nat} {v x : Value} (h1 : b1 < w0.heap.size) (h4 : b4 < w0.heap.size) (hb : Below w1.heap.size w1 w2) (h : Gin w0 b1 b4 v x w1) : Gin w0 b1 b4 v x w2 := by
  obtain ⟨a, b, c⟩ := h
  exact ⟨by rw [hb.cell (Nat.lt_of_lt_of_le h1 c.size)]; exact a, by rw [hb.cell (Nat.lt_of_lt_of_le h4 c.size)]; exact b, c.trans (hb.mono c.size)⟩

theorem Gin.set4 {w0 u : World} {b1 b4 : Nat} {v x : Value} (h1 : b1 < w0.heap.size) (h4 : b4 < w0.heap.size) (a b c d : Value) (h : Gin w0 b1 b4 v x u) : Gin w0 b1 b4 v x ((((u.setCell ⟨w0.heap.size, 0, none⟩ a).setCell ⟨w0.heap.size, 1, none⟩ b).setCell ⟨w0.heap.size, 2, none⟩ c).setCell ⟨w0.heap.size, 3, none⟩ d) := by
  obtain ⟨p, q, r⟩ := h
  have n1 : ∀ (m : World) (o : Nat) (y : Value), (m.setCell ⟨w0.heap.size, o, none⟩ y).cell? ⟨b1, 0, none⟩ = m.cell? ⟨b1, 0, none⟩ := fun m o y => World.cell?_setCell_other _ _ _ _ (fun e => by injection e; omega)
  have n4 : ∀ (m : World) (o : Nat) (y : Value), (m.setCell ⟨w0.heap.size, o, none⟩ y).cell? ⟨b4, 0, none⟩ = m.cell? ⟨b4, 0, none⟩ := fun m o y => World.cell?_setCell_other _ _ _ _ (fun e => by injection e; omega)
  exact ⟨by rw [n1, n1, n1, n1]; exact p, by rw [n4, n4, n4, n4]; exact q, (((r.setCell (Nat.le_refl _) _).setCell (Nat.le_refl _) _).setCell (Nat.le_refl _) _).setCell (Nat.le_refl _) _⟩

theorem entry_keep {u : World} {B B' n : Nat} {v vl : Value} {es : List Ent} {l : List Int} (hE : Ents u B v es) (hL : Ints u B' vl l) (hn : es.length ≤ 1048576) (hl : l.length ≤ 1048576) (hr : ∀ e ∈ es, e.runes.length ≤ 1048576) :
    Calls Tryz.prog 49 #[v, vl] u fun e w' => e = .returned (elRes (entOf es l)) ∧ Below u.heap.size u w' ∧ (∀ j, n < u.heap.size → w'.cell? ⟨n, j, none⟩ = u.cell? ⟨n, j, none⟩) ∧ ∀ j, n < u.heap.size → w'.frozen? ⟨n, j, none⟩ = u.frozen? ⟨n, j, none⟩ :=
  (entry_any hE hL hn hl hr).mono fun _ _ h => ⟨h.1, h.2, fun _ hj => h.2.cell hj, fun j hj => h.2.frozen (p := ⟨n, j, none⟩) hj⟩

theorem entOk_split (es : List Ent) (i : Nat) (e : Ent) : entOk es i e = (runesOk e.runes && (decide (atE es e.runes = (i : Int)) && elOk e.el)) := rfl

set_option maxRecDepth 100000 in
set_option maxHeartbeats 2000000 in
theorem good3i_long (w : World) (a : Option Addr) (n c : Nat) (sh : Bool) (lv : Int) (h : 40 < n) : Calls Tryz.prog 51 #[.agg #[.slice a n c, .bool sh, .int .i64 lv]] w fun e w' => e = .returned (.bool false) ∧ Below w.heap.size w w' := by
  have h2 : (40 : Int) < (n : Int) := by omega
  go_enter Tryz.func51, Tryz.ntmps51
  go_wp2
  go_ret
  exact ⟨rfl, (Below.refl _ _).alloc (Nat.le_refl _) _⟩

set_option maxRecDepth 100000 in
set_option maxHeartbeats 2000000 in
theorem good3i_lev (w : World) (a : Option Addr) (n c : Nat) (sh : Bool) (lv : Int) (h : n ≤ 40) (hl : ¬ (1 ≤ lv ∧ lv ≤ 4)) : Calls Tryz.prog 51 #[.agg #[.slice a n c, .bool sh, .int .i64 lv]] w fun e w' => e = .returned (.bool false) ∧ Below w.heap.size w w' := by
  have h2 : ¬ (40 : Int) < (n : Int) := by omega
  by_cases h3 : lv < 1
  · clear hl
    go_enter Tryz.func51, Tryz.ntmps51
    go_wp2
    go_ret
    exact ⟨rfl, (Below.refl _ _).alloc (Nat.le_refl _) _⟩
  · have h4 : 4 < lv := by omega
    clear hl
    go_enter Tryz.func51, Tryz.ntmps51
    go_wp2
    go_ret
    exact ⟨rfl, (Below.refl _ _).alloc (Nat.le_refl _) _⟩

set_option maxRecDepth 100000 in
set_option maxHeartbeats 2000000 in
theorem good3i_nil (w : World) (sh : Bool) (lv : Int) (hl : 1 ≤ lv ∧ lv ≤ 4) : Calls Tryz.prog 51 #[.agg #[.slice none 0 0, .bool sh, .int .i64 lv]] w fun e w' => e = .returned (.bool true) ∧ Below w.heap.size w w' := by
  obtain ⟨h3, h4⟩ := hl
  go_enter Tryz.func51, Tryz.ntmps51
  go_wp2
  go_loop [24] (fun i => i = .int .i64 0) (fun _ => 0)
  case atStart => rfl
  case round =>
    subst hrel
    go_wp2
    go_ret
    exact ⟨rfl, (Below.refl _ _).alloc (Nat.le_refl _) _⟩

/-- The block of an entry that is looked at. -/
def Eb (u : World) (b : Nat) (x : Value) (e : El) : Prop := u.heap[b]? = some (.cells #[x, .int .i64 e.first, .int .i64 e.second, .int .i64 e.third, .bool e.varies] 52)
theorem Eb.facts {u : World} {b : Nat} {x : Value} {e : El} (h : Eb u b x e) : b < u.heap.size ∧ u.cell? ⟨b, 0, none⟩ = some x ∧ u.cell? ⟨b, 1, none⟩ = some (.int .i64 e.first) ∧ u.cell? ⟨b, 2, none⟩ = some (.int .i64 e.second) ∧ u.cell? ⟨b, 3, none⟩ = some (.int .i64 e.third) ∧ u.cell? ⟨b, 4, none⟩ = some (.bool e.varies) :=
  ⟨(Array.getElem?_eq_some_iff.1 h).1, cell_of_row _ _ 0 _ _ _ h, cell_of_row _ _ 1 _ _ _ h, cell_of_row _ _ 2 _ _ _ h, cell_of_row _ _ 3 _ _ _ h, cell_of_row _ _ 4 _ _ _ h⟩
theorem Eb.below {u u' : World} {b : Nat} {x : Value} {e : El} (h : Eb u b x e) (hb : Below u.heap.size u u') : Eb u' b x e := (hb.block _ h.facts.1).trans h

set_option maxRecDepth 100000 in
set_option maxHeartbeats 8000000 in
theorem good3i_row (w : World) (B g cap : Nat) (es : List Ent) (sh : Bool) (lv : Int) (hE : Ents w B (.slice (some ⟨g, 0, none⟩) es.length cap) es) (hn : es.length ≤ 40) (hl : 1 ≤ lv ∧ lv ≤ 4) (hr : ∀ e ∈ es, e.runes.length ≤ 1048576) (ht : Tabs3 w) :
    Calls Tryz.prog 51 #[.agg #[.slice (some ⟨g, 0, none⟩) es.length cap, .bool sh, .int .i64 lv]] w fun e w' => e = .returned (.bool (rulesOk es lv)) ∧ Below w.heap.size w w' := by
  obtain ⟨hl1, hl2⟩ := hl
  have hn2 : ¬ (40 : Int) < (es.length : Int) := by omega
  have HT : Hid (Tabs3 w) := ht
  have hcap : es.length ≤ cap ∧ cap ≤ maxLen := by
    rcases hE.form with ⟨h, _⟩ | ⟨_, _, h, h2, h3, _, _⟩
    · cases h
    · cases h; exact ⟨h2, h3⟩
  unfold maxLen at hcap
  clear ht
  go_enter Tryz.func51, Tryz.ntmps51
  go_wp2
  go_loopw [24] (fun i wr => GRel w (.slice (some ⟨g, 0, none⟩) es.length cap) sh lv es i wr) (fun i _ => es.length - (intOf i).toNat)
  case atStart => exact ⟨0, Nat.zero_le _, rfl, fun i e hi => by omega, ⟨by simp, by simp [World.cell?_alloc_new], by simp [World.cell?_alloc_new], by simp [World.cell?_alloc_new]⟩, (Below.refl _ _).alloc (Nat.le_refl _) _⟩
  case round =>
    obtain ⟨k, hk, rfl, HN0, hbx, hb⟩ := hrel
    have HN : Hid (EntsTo es k) := HN0
    clear HN0
    by_cases hlt : k < es.length
    · obtain ⟨e, he⟩ : ∃ e, es[k]? = some e := ⟨_, List.getElem?_eq_getElem hlt⟩
      obtain ⟨x, hI, a0, a1, a2, a3, a4⟩ := (hE.below hb).cells k e he
      obtain ⟨xa, xn, xc, rfl⟩ : ∃ xa xn xc, x = .slice xa xn xc := by
        rcases hI.form with ⟨rfl, _⟩ | ⟨_, _, rfl, _, _⟩
        · exact ⟨_, _, _, rfl⟩
        · exact ⟨_, _, _, rfl⟩
      have hk8 : (k : Int) < (es.length : Int) := by omega
      have hrl := hr e (List.mem_of_getElem? he)
      have hbr := (Below.refl wr.heap.size wr).alloc (Nat.le_refl _) (.cells #[.slice xa xn xc, .int .i64 e.el.first, .int .i64 e.el.second, .int .i64 e.el.third, .bool e.el.varies] 52)
      have hba := hb.trans (hbr.mono hb.size)
      have hE2 := (hE.below hb).below hbr
      have JN := joined_any hrl (hI.below hbr) ((HT.out.below hb).below hbr)
      have HE : Hid _ := he
      have HI2 : Hid (Ints _ _ _ _) := hI.below hbr
      have HE2 : Hid (Ents _ _ _ _) := hE2
      have HB : Hid (Below _ _ _) := hba
      have HX : Hid (Box3 _ _ _ _ _) := hbx.below hbr
      have HG : Hid (Eb _ _ _ _) := show Eb (wr.alloc _) wr.heap.size (.slice xa xn xc) e.el from heap_alloc_new _ _
      clear he hI hE2 hba hbr hbx hb HT
      go_wp2_with fail
      refine JN.mono ?_
      rintro e' w2 ⟨rfl, b2⟩
      have c2 : Hid (Below _ _ _) := HB.out.trans (b2.mono HB.out.size)
      have g2 : Hid (Eb _ _ _ _) := HG.out.below b2
      have x2 : Hid (Box3 _ _ _ _ _) := HX.out.below b2
      have i2 : Hid (Ints _ _ _ _) := HI2.out.below b2
      have ee2 : Hid (Ents _ _ _ _) := HE2.out.below b2
      clear JN a0 a1 a2 a3 a4 HB HX HG HI2 HE2 b2
      cases r1 : runesOk e.runes
      · have HF : Hid (rulesOk es lv = false) := rulesOk_ent HE.out (by rw [entOk_split, r1, Bool.false_and])
        clear HN HE hE hr
        go_wp2
        go_ret
        rw [HF.out]
        exact ⟨rfl, c2.out⟩
      · obtain ⟨_, d0, d1, d2, d3, d4⟩ := g2.out.facts
        have GE := fun w => goodElem_any e.el w
        go_wp2_with fail
        refine (GE _).mono ?_
        rintro e' w3 ⟨rfl, b3⟩
        have c3 : Hid (Below _ _ _) := c2.out.trans (b3.mono c2.out.size)
        have g3 : Hid (Eb _ _ _ _) := g2.out.below b3
        have x3 : Hid (Box3 _ _ _ _ _) := x2.out.below b3
        have i3 : Hid (Ints _ _ _ _) := i2.out.below b3
        have ee3 : Hid (Ents _ _ _ _) := ee2.out.below b3
        clear GE d0 d1 d2 d3 d4 c2 g2 x2 i2 ee2 b3
        cases r2 : elOk e.el
        · have HF : Hid (rulesOk es lv = false) := rulesOk_ent HE.out (by rw [entOk_split, r2]; simp)
          clear HN HE hE hr
          go_wp2
          go_ret
          rw [HF.out]
          exact ⟨rfl, c3.out⟩
        · have hk9 : (k : Int) ≤ (cap : Int) := by omega
          have hg4 := g3.out.facts.1
          have hg1 := x3.out.1
          have hS : w3.cell? ⟨w.heap.size, 0, none⟩ = some (.slice (some ⟨g, 0, none⟩) es.length cap) ∧ w3.cell? ⟨wr.heap.size, 0, none⟩ = some (.slice xa xn xc) ∧ Below w3.heap.size w3 w3 := ⟨x3.out.2.1, g3.out.facts.2.1, Below.refl _ _⟩
          have hS2 := Gin.keep hg1 hg4 ((Below.refl w3.heap.size w3).drew) hS
          have K := fun (u1 u2 : World) (hb : Below u1.heap.size u1 u2) (hu : u1.cell? ⟨w.heap.size, 0, none⟩ = some (.slice (some ⟨g, 0, none⟩) es.length cap) ∧ u1.cell? ⟨wr.heap.size, 0, none⟩ = some (.slice xa xn xc) ∧ Below w3.heap.size w3 u1) => Gin.keep hg1 hg4 hb hu
          have hS3 := Gin.keep hg1 hg4 (((Below.refl w3.heap.size w3).alloc (Nat.le_refl _) (.cells #[.int .i64 0, .int .i64 0, .int .i64 0, .bool false] 41)).drew) hS
          have K4 := fun (u : World) (a b c d : Value) (hu : u.cell? ⟨w.heap.size, 0, none⟩ = some (.slice (some ⟨g, 0, none⟩) es.length cap) ∧ u.cell? ⟨wr.heap.size, 0, none⟩ = some (.slice xa xn xc) ∧ Below w3.heap.size w3 u) => Gin.set4 hg1 hg4 a b c d hu
          unfold Gin at hS2 hS3 K K4
          have EN := fun (u : World) (hu : u.cell? ⟨w.heap.size, 0, none⟩ = some (.slice (some ⟨g, 0, none⟩) es.length cap) ∧ u.cell? ⟨wr.heap.size, 0, none⟩ = some (.slice xa xn xc) ∧ Below w3.heap.size w3 u) => entry_keep (n := w3.heap.size) ((ee3.out.below hu.2.2).take k hk) (i3.out.below hu.2.2) (by rw [List.length_take]; omega) hrl (fun x hx => hr x (List.mem_of_mem_take hx))
          have HW : Hid (entOf (es.take k) e.runes = none ↔ atE es e.runes = (k : Int)) := atE_here HE.out
          obtain ⟨o, ho⟩ : ∃ o, entOf (es.take k) e.runes = o := ⟨_, rfl⟩
          rw [ho] at EN
          unfold elRes elV at EN
          have HO : Hid (entOf (es.take k) e.runes = o) := ho
          clear ho
          have HXE : Hid (o.isSome = false → EntsTo es (k + 1)) := fun c => HN.out.succ HE.out (by rw [entOk_split, r1, r2, decide_eq_true (HW.out.1 (by rw [HO.out]; simpa using c))]; rfl)
          have HXF : Hid (o.isSome = true → rulesOk es lv = false) := fun c => rulesOk_ent HE.out (by
            have : ¬ atE es e.runes = (k : Int) := fun d => by rw [HW.out.2 d] at HO; have := HO.out; rw [← this] at c; simp at c
            rw [entOk_split, decide_eq_false this]; simp)
          clear HW HO HE HN r1 r2 ee3 i3
          generalize elOf o = x0 at *
          generalize o.isSome = ob at *
          go_wp2_with fail
          go_region_held3 (fun u => u.cell? ⟨w.heap.size, 0, none⟩ = some (.slice (some ⟨g, 0, none⟩) es.length cap) ∧ u.cell? ⟨wr.heap.size, 0, none⟩ = some (.slice xa xn xc) ∧ Below w3.heap.size w3 u)
            (first
              | with_reducible exact hS2
              | with_reducible exact hS3
              | with_reducible exact K _ _ (by assumption) (by assumption)
              | (with_reducible refine K4 _ _ _ _ _ ?_; first | assumption | exact K _ _ (by assumption) (by assumption))
              | (with_reducible refine K _ _ ((Below.refl _ _).alloc (Nat.le_refl _) _) ?_; first | assumption | exact hS2 | exact K _ _ (by assumption) (by assumption)))
            ((go_at_call 49; refine (EN _ (by assumption)).mono ?_; rintro e' w' ⟨rfl, hbw, hcw, hfw⟩))
          all_goals
            clear hS hS2 hS3 K K4 EN
            obtain ⟨_, _, hE9⟩ := (show _ ∧ _ ∧ Below w3.heap.size w3 _ by assumption)
            have x4 : Hid (Box3 _ _ _ _ _) := x3.out.below hE9
            have c4 : Hid (Below _ _ _) := c3.out.trans (hE9.mono c3.out.size)
            cases ob
            · have HN2 : Hid (EntsTo es (k + 1)) := HXE.out rfl
              clear HXE HXF hE9 hr hE
              go_wp2
              exact ⟨⟨k + 1, by omega, by go_num, HN2.out, x4.out, c4.out⟩, by simp [intOf]; omega⟩
            · have HF : Hid (rulesOk es lv = false) := HXF.out rfl
              clear HXE HXF hE9 hr hE
              go_wp2
              go_ret
              rw [HF.out]
              exact ⟨rfl, c4.out⟩
    · have HA : Hid (rulesOk es lv = true) := rulesOk_all HN.out (by omega) hn ⟨hl1, hl2⟩
      clear HN hE hr
      go_wp2
      go_ret
      rw [HA.out]
      exact ⟨rfl, hb⟩

theorem implGood3_any {w : World} {B : Nat} {v : Value} {es : List Ent} {sh : Bool} {lv : Int} (hE : Ents w B v es) (hr : ∀ e ∈ es, e.runes.length ≤ 1048576) (ht : Tabs3 w) :
    Calls Tryz.prog 51 #[.agg #[v, .bool sh, .int .i64 lv]] w fun e w' => e = .returned (.bool (rulesOk es lv)) ∧ Below w.heap.size w w' := by
  obtain ⟨a, c, rfl⟩ : ∃ a c, v = .slice a es.length c := by
    rcases hE.form with ⟨rfl, rfl⟩ | ⟨g, cap, rfl, _, _, _, _⟩
    · exact ⟨_, _, rfl⟩
    · exact ⟨_, _, rfl⟩
  by_cases h1 : es.length ≤ 40
  · by_cases h2 : 1 ≤ lv ∧ lv ≤ 4
    · rcases hE.form with ⟨h, rfl⟩ | ⟨g, cap, h, _, _, _, _⟩
      · rw [h]
        have e0 : rulesOk [] lv = true := decide_eq_true ⟨by simp, h2, rfl⟩
        rw [e0]
        exact good3i_nil w sh lv h2
      · rw [h] at hE ⊢
        exact good3i_row w B g cap es sh lv hE h1 h2 hr ht
    · rw [rulesOk_head (fun h => h2 h.2)]
      exact good3i_lev w a es.length c sh lv h1 h2
  · rw [rulesOk_head (fun h => h1 h.1)]
    exact good3i_long w a es.length c sh lv (by omega)
end Go.Proofs.YtakfnmhokijcoaaGreatDoor

namespace Go.Proofs.YtakfnmhokijcoaaGreatDoor
open Go.RowKit

set_option maxRecDepth 100000 in
set_option maxHeartbeats 4000000 in
theorem baseElem_any (r : Int) (h0 : 0 ≤ r) (h1 : r ≤ 1114111) (hs : ¬ (55296 ≤ r ∧ r ≤ 57343)) (w : World) (hm : Held w 1 marksF) :
    Calls Tryz.prog 60 #[.int .i64 r] w fun e w' => e = .returned (elRes (one3 (base r))) ∧ Below w.heap.size w w' := by
  have hba := (Below.refl w.heap.size w).alloc (Nat.le_refl _) (.cells #[.int .i64 0, .int .i64 0, .int .i64 0, .bool false] 41)
  have hx : Zel (w.alloc (.cells #[.int .i64 0, .int .i64 0, .int .i64 0, .bool false] 41)) w.heap.size := heap_alloc_new _ _
  have W := weight_any r h0 h1 hs _ (hm.below hba hm.lt)
  clear hm hs h0 h1
  rcases base_cases r with hb | ⟨e, hb⟩ | ⟨e, f, hb⟩
  · rw [hb] at W ⊢
    unfold wtV at W
    have HO : Hid (one3 [] = none) := rfl
    have ta : ∀ w, (Instr.typeAssert (.iface 115 (.agg #[])) 110 107 true).run Tryz.prog w = .ok (.tuple #[.agg #[.int .i64 0, .int .i64 0, .int .i64 0, .bool false], .bool false]) w := fun _ => by kernel_rfl
    clear hb
    go_enter Tryz.func60, Tryz.ntmps60
    go_wp2_with fail
    refine W.mono ?_
    rintro e' w2 ⟨rfl, b2⟩
    have hb4 := hba.trans (b2.mono hba.size)
    obtain ⟨hlt, ⟨q0, q1, q2, q3⟩, f0⟩ := (hx.below b2).facts
    clear W hx b2 hba
    go_wp2
    refine bodyPost_ret (v := .tuple #[.agg #[.int .i64 0, .int .i64 0, .int .i64 0, .bool false], .bool false]) ?_ rfl ⟨ret_e0 HO.out, below_res1a hb4 _ _ _ _ _⟩
    rw [results_cell_tmp rfl]
    go_simp

  · have hf := base_first hb
    rw [hb] at W ⊢
    unfold wtV at W
    have ta : ∀ w, (Instr.typeAssert (.iface 107 (.agg #[.int .i64 e.first, .int .i64 e.second, .int .i64 e.third, .bool e.varies])) 110 107 true).run Tryz.prog w = .ok (.tuple #[.agg #[.int .i64 e.first, .int .i64 e.second, .int .i64 e.third, .bool e.varies], .bool true]) w := fun _ => by kernel_rfl
    clear hb
    by_cases hz : 0 < e.first
    · have HO : Hid (one3 [e] = some e) := one3_pos hz
      go_enter Tryz.func60, Tryz.ntmps60
      go_wp2_with fail
      refine W.mono ?_
      rintro e' w2 ⟨rfl, b2⟩
      have hb4 := hba.trans (b2.mono hba.size)
      obtain ⟨hlt, ⟨q0, q1, q2, q3⟩, f0⟩ := (hx.below b2).facts
      clear W hx b2 hba
      go_wp2
      refine bodyPost_ret (v := .tuple #[.agg #[.int .i64 e.first, .int .i64 e.second, .int .i64 e.third, .bool e.varies], .bool true]) ?_ rfl ⟨ret_e HO.out, below_res1a hb4 _ _ _ _ _⟩
      rw [results_cell_tmp rfl]
      go_simp
    · have HO : Hid (one3 [e] = none) := one3_zero hf hz
      go_enter Tryz.func60, Tryz.ntmps60
      go_wp2_with fail
      refine W.mono ?_
      rintro e' w2 ⟨rfl, b2⟩
      have hb4 := hba.trans (b2.mono hba.size)
      obtain ⟨hlt, ⟨q0, q1, q2, q3⟩, f0⟩ := (hx.below b2).facts
      clear W hx b2 hba
      go_wp2
      refine bodyPost_ret (v := .tuple #[.agg #[.int .i64 0, .int .i64 0, .int .i64 0, .bool false], .bool false]) ?_ rfl ⟨ret_e0 HO.out, below_res1a hb4 _ _ _ _ _⟩
      rw [results_cell_tmp rfl]
      go_simp

  · rw [hb] at W ⊢
    unfold wtV at W
    have HO : Hid (one3 [e, f] = none) := rfl
    have ta : ∀ w, (Instr.typeAssert (.iface 120 (.agg #[.int .i64 e.first, .int .i64 e.second, .int .i64 e.third, .bool e.varies, .int .i64 f.first, .int .i64 f.second, .int .i64 f.third, .bool f.varies])) 110 107 true).run Tryz.prog w = .ok (.tuple #[.agg #[.int .i64 0, .int .i64 0, .int .i64 0, .bool false], .bool false]) w := fun _ => by kernel_rfl
    clear hb
    go_enter Tryz.func60, Tryz.ntmps60
    go_wp2_with fail
    refine W.mono ?_
    rintro e' w2 ⟨rfl, b2⟩
    have hb4 := hba.trans (b2.mono hba.size)
    obtain ⟨hlt, ⟨q0, q1, q2, q3⟩, f0⟩ := (hx.below b2).facts
    clear W hx b2 hba
    go_wp2
    refine bodyPost_ret (v := .tuple #[.agg #[.int .i64 0, .int .i64 0, .int .i64 0, .bool false], .bool false]) ?_ rfl ⟨ret_e0 HO.out, below_res1a hb4 _ _ _ _ _⟩
    rw [results_cell_tmp rfl]
    go_simp
end Go.Proofs.YtakfnmhokijcoaaGreatDoor

namespace Go.Proofs.YtakfnmhokijcoaaGreatDoor
open Go.RowKit

theorem below_res4a {w wr : World} (h : Below w.heap.size w wr) (x y z t : Value) (o : Obj) : Below w.heap.size w (((((wr.setCell ⟨w.heap.size + 1, 0, none⟩ x).setCell ⟨w.heap.size + 1, 1, none⟩ y).setCell ⟨w.heap.size + 1, 2, none⟩ z).setCell ⟨w.heap.size + 1, 3, none⟩ t).alloc o) :=
  (below_res4 h x y z t).alloc (below_res4 h x y z t).size _

theorem runesOk_good2 {l : List Int} (h : runesOk l = true) : ∀ x ∈ l, 0 ≤ x ∧ x ≤ 1114111 ∧ ¬ (55296 ≤ x ∧ x ≤ 57343) := by
  unfold runesOk at h
  rw [Bool.and_eq_true, Bool.and_eq_true] at h
  intro x hx
  have := goodB_true ((okR_true h.2.1).2 x hx)
  omega

set_option maxRecDepth 100000 in
set_option maxHeartbeats 8000000 in
theorem implElemOf_any {w : World} {B B' : Nat} {v : Value} {es : List Ent} {sh : Bool} {lv : Int} {vl : Value} {l : List Int} (hE : Ents w B v es) (hL : Ints w B' vl l) (hn : es.length ≤ 1048576) (hl : l.length ≤ 1048576) (hr : ∀ e ∈ es, e.runes.length ≤ 1048576) (ht : Tabs3 w) :
    Calls Tryz.prog 48 #[.agg #[v, .bool sh, .int .i64 lv], vl] w fun e w' => e = .returned (elRes (elemOk es lv l)) ∧ Below w.heap.size w w' := by
  have hba := ((Below.refl w.heap.size w).alloc (Nat.le_refl _) (.cells #[v, .bool sh, .int .i64 lv] 32)).alloc (by simp) (.cells #[.int .i64 0, .int .i64 0, .int .i64 0, .bool false] 41)
  have HX0 : Hid (Box4 _ _ _ _ _ _) := box4_new w v sh lv
  have HB : Hid (Below _ _ _) := hba
  have HE : Hid (Ents _ _ _ _) := hE.below hba
  have HL : Hid (Ints _ _ _ _) := hL.below hba
  have HT : Hid (Tabs3 _) := ht.below hba
  have GR := implGood3_any (sh := sh) (lv := lv) HE.out hr HT.out
  clear hba hE hL ht
  cases hro : rulesOk es lv
  · rw [hro] at GR
    have HF : Hid (elemOk es lv l = none) := by show _ = _; unfold elemOk; rw [if_neg (by simp [hro])]
    clear hr HE HL HT hro
    go_enter Tryz.func48, Tryz.ntmps48
    go_wp2_with fail
    refine GR.mono ?_
    rintro e' w2 ⟨rfl, b2⟩
    have hx := HX0.out.below b2
    have b4 := HB.out.trans (b2.mono HB.out.size)
    clear GR HX0 HB b2
    obtain ⟨⟨n1, n2⟩, _, ⟨q0, q1, q2, q3⟩, f0⟩ := hx.facts
    clear hx
    go_wp2
    refine bodyPost_ret (v := .tuple #[.agg #[.int .i64 0, .int .i64 0, .int .i64 0, .bool false], .bool false]) ?_ rfl ⟨ret_e0 HF.out, below_res4 b4 _ _ _ _⟩
    rw [results_cell_tmp rfl]
    go_simp
  · rw [hro] at GR
    go_enter Tryz.func48, Tryz.ntmps48
    go_wp2_with fail
    refine GR.mono ?_
    rintro e' w2 ⟨rfl, b2⟩
    have HX2 : Hid (Box4 _ _ _ _ _ _) := HX0.out.below b2
    have HB2 : Hid (Below _ _ _) := HB.out.trans (b2.mono HB.out.size)
    have HE2 : Hid (Ents _ _ _ _) := HE.out.below b2
    have HL2 : Hid (Ints _ _ _ _) := HL.out.below b2
    have HT2 : Hid (Tabs3 _) := HT.out.below b2
    have RN := joined_any hl HL2.out HT2.out
    clear GR HX0 HB HE HL HT b2
    cases hru : runesOk l
    · rw [hru] at RN
      have HF : Hid (elemOk es lv l = none) := by show _ = _; unfold elemOk; rw [if_neg (by simp [hru])]
      clear hr HE2 HL2 HT2 hro hru
      go_wp2_with fail
      refine RN.mono ?_
      rintro e' w3 ⟨rfl, b3⟩
      have hx := HX2.out.below b3
      have b4 := HB2.out.trans (b3.mono HB2.out.size)
      clear RN HX2 HB2 b3
      obtain ⟨⟨n1, n2⟩, _, ⟨q0, q1, q2, q3⟩, f0⟩ := hx.facts
      clear hx
      go_wp2
      refine bodyPost_ret (v := .tuple #[.agg #[.int .i64 0, .int .i64 0, .int .i64 0, .bool false], .bool false]) ?_ rfl ⟨ret_e0 HF.out, below_res4 b4 _ _ _ _⟩
      rw [results_cell_tmp rfl]
      go_simp
    · rw [hru] at RN
      have HF : Hid (elemOk es lv l = elemE es l) := by show _ = _; unfold elemOk; rw [if_pos ⟨hro, hru⟩]
      have hg := runesOk_good2 hru
      have hll : 1 ≤ l.length := by
        unfold runesOk at hru
        rw [Bool.and_eq_true] at hru
        exact (of_decide_eq_true hru.1).1
      clear hro hru
      go_wp2_with fail
      refine RN.mono ?_
      rintro e' w3 ⟨rfl, b3⟩
      have HX : Hid (Box4 _ _ _ _ _ _) := HX2.out.below b3
      have HB3 : Hid (Below _ _ _) := HB2.out.trans (b3.mono HB2.out.size)
      have HL3 : Hid (Ints _ _ _ _) := HL2.out.below b3
      have HT3 : Hid (Tabs3 _) := HT2.out.below b3
      have EL := entry_any (HE2.out.below b3) HL3.out hn hl hr
      clear RN HX2 HB2 HE2 HL2 HT2 b3 hr
      obtain ⟨_, ⟨p0, p1, p2⟩, _, _⟩ := HX.out.facts
      cases ho : entOf es l with
      | some e =>
        rw [ho] at EL
        have HO : Hid (elemOk es lv l = some e) := HF.out.trans (elemE_of ho)
        unfold elRes elOf elV at EL
        simp only [Option.getD_some, Option.isSome_some] at EL
        clear HF ho hg HL3 HT3
        go_wp2_with fail
        refine EL.mono ?_
        rintro e' w4 ⟨rfl, b4⟩
        have hx := HX.out.below b4
        have b5 := HB3.out.trans (b4.mono HB3.out.size)
        clear EL HX HB3 b4 p0 p1 p2
        obtain ⟨⟨n1, n2⟩, _, ⟨q0, q1, q2, q3⟩, f0⟩ := hx.facts
        clear hx
        go_wp2
        refine bodyPost_ret (v := .tuple #[.agg #[.int .i64 e.first, .int .i64 e.second, .int .i64 e.third, .bool e.varies], .bool true]) ?_ rfl ⟨ret_e HO.out, below_res4a b5 _ _ _ _ _⟩
        rw [results_cell_tmp rfl]
        go_simp
      | none =>
        rw [ho] at EL
        unfold elRes elOf elV at EL
        simp only [Option.getD_none, Option.isSome_none] at EL
        have ha := atE_of_none ho
        clear ho
        by_cases h1 : l.length = 1
        · obtain ⟨r, rfl⟩ : ∃ r, l = [r] := List.length_eq_one_iff.1 h1
          obtain ⟨g, cap, rfl⟩ := ints_some HL3.out (by simp)
          have HO : Hid (elemOk es lv [r] = one3 (base r)) := HF.out.trans (elemE_base ha)
          have hr3 := hg r (by simp)
          clear HF ha hg hll h1 hl
          simp only [List.length_singleton] at *
          go_wp2_with fail
          refine EL.mono ?_
          rintro e' w4 ⟨rfl, b4⟩
          have hal := (Below.refl w4.heap.size w4).alloc (Nat.le_refl _) (.cells #[.int .i64 0, .int .i64 0, .int .i64 0, .bool false] 41)
          have HX4 : Hid (Box4 _ _ _ _ _ _) := (HX.out.below b4).below hal
          have HB4 := HB3.out.trans (b4.mono HB3.out.size)
          have HB5 : Hid (Below _ _ _) := HB4.trans (hal.mono HB4.size)
          have c0 : w4.cell? ⟨g, 0, none⟩ = some (.int .i64 r) := by
            have h3 := World.ownsRow.cellAt (n := 1) (HL3.out.below b4) 0 (by omega)
            rw [h3]; rfl
          have glt : g < w4.heap.size := (World.ownsRow.lt (HL3.out.below b4) g rfl).2
          have BS := baseElem_any r hr3.1 hr3.2.1 hr3.2.2 _ ((HT3.out.below b4).below hal).1
          clear EL HX HB3 HB4 b4 p0 p1 p2 HL3 HT3 hal
          obtain ⟨o, HO2⟩ : ∃ o, Hid (one3 (base r) = o) := ⟨_, rfl⟩
          rw [HO2.out] at BS
          have HO3 : Hid (elemOk es lv [r] = o) := HO.out.trans HO2.out
          clear HO HO2
          unfold elRes elV at BS
          go_wp2_with fail
          refine BS.mono ?_
          rintro e' w5 ⟨rfl, b5⟩
          have hx := HX4.out.below b5
          have b6 := HB5.out.trans (b5.mono HB5.out.size)
          clear BS HX4 HB5 b5 c0 glt
          obtain ⟨⟨n1, n2⟩, _, ⟨q0, q1, q2, q3⟩, f0⟩ := hx.facts
          clear hx
          go_wp2
          refine bodyPost_ret (v := elRes o) ?_ rfl ⟨by rw [HO3.out], below_res4 b6 _ _ _ _⟩
          rw [results_cell_tmp rfl]
          unfold elRes elV
          go_simp
        · have HO : Hid (elemOk es lv l = none) := HF.out.trans (elemE_far ha h1)
          obtain ⟨a, c, rfl⟩ : ∃ a c, vl = .slice a l.length c := by
            rcases HL3.out.form with ⟨rfl, rfl⟩ | ⟨g, cap, rfl, _, _⟩
            · exact ⟨_, _, rfl⟩
            · exact ⟨_, _, rfl⟩
          have h2 : (1 : Int) < (l.length : Int) := by omega
          clear HF ha hg HL3 HT3 h1
          go_wp2_with fail
          refine EL.mono ?_
          rintro e' w4 ⟨rfl, b4⟩
          have hx := HX.out.below b4
          have b5 := HB3.out.trans (b4.mono HB3.out.size)
          clear EL HX HB3 b4 p0 p1 p2
          obtain ⟨⟨n1, n2⟩, _, ⟨q0, q1, q2, q3⟩, f0⟩ := hx.facts
          clear hx
          go_wp2
          refine bodyPost_ret (v := .tuple #[.agg #[.int .i64 0, .int .i64 0, .int .i64 0, .bool false], .bool false]) ?_ rfl ⟨ret_e0 HO.out, below_res4a b5 _ _ _ _ _⟩
          rw [results_cell_tmp rfl]
          go_simp
end Go.Proofs.YtakfnmhokijcoaaGreatDoor

namespace Go.Proofs.YtakfnmhokijcoaaGreatDoor
open Go.RowKit

theorem ret3 {a a' b b' c c' : Int} (h1 : a = a') (h2 : b = b') (h3 : c = c') :
    Ending.returned (.tuple #[.int .i64 a, .int .u8 b, .int .u8 c]) = .returned (.tuple #[.int .i64 a', .int .u8 b', .int .u8 c']) := by rw [h1, h2, h3]

set_option maxHeartbeats 1000000 in
theorem form_any (b : Nat) (hb : b < 256) (w : World) :
    Calls Tryz.prog 92 #[.int .u8 (b : Int)] w fun e w' => e = .returned (.tuple #[.int .i64 (Dec.more b + 1), .int .u8 (Dec.lo1 b : Int), .int .u8 (Dec.hi1 b : Int)]) ∧ w' = w := by
  go_enter Tryz.func92, Tryz.ntmps92
  go_wp2
  all_goals
    go_ret3
    refine ⟨ret3 ?_ ?_ ?_, rfl⟩
    all_goals
      try simp only [beq_iff_eq, beq_eq_false_iff_ne, ne_eq] at *
      simp only [Dec.more, Dec.lo1, Dec.hi1]
      repeat' split
      all_goals omega

set_option maxRecDepth 100000 in
set_option maxHeartbeats 1000000 in
theorem lead_any (b : Nat) (hb : b < 256) (w : World) :
    Calls Tryz.prog 40 #[.int .u8 (b : Int)] w fun e w' => e = .returned (.tuple #[.int .i64 (Dec.more b), .int .u8 (Dec.lo0 b : Int), .int .u8 (Dec.hi0 b : Int)]) ∧ w' = w := by
  go_enter Tryz.func40, Tryz.ntmps40
  go_wp2
  all_goals
    go_ret3
    refine ⟨ret3 ?_ ?_ ?_, rfl⟩
    all_goals
      try simp only [beq_iff_eq, beq_eq_false_iff_ne, ne_eq] at *
      simp only [Dec.more, Dec.lo0, Dec.hi0, Dec.lo1, Dec.hi1]
      repeat' split
      all_goals omega
end Go.Proofs.YtakfnmhokijcoaaGreatDoor

namespace Go.Proofs.YtakfnmhokijcoaaGreatDoor

/-- A text's runes, taken apart. -/
def rn4 (s : ByteArray) : List Int := nD (Dec.decT s.size s).1
/-- Whether a text is one of chapter 4's. -/
def ok4 (s : ByteArray) : Bool := decide (s.size ≤ 200 ∧ (rn4 s).length ≤ 200)
end Go.Proofs.YtakfnmhokijcoaaGreatDoor

namespace Go.Proofs.YtakfnmhokijcoaaGreatDoor
open Go.RowKit

theorem okD_eq {zs : List Int} (h : okR zs = true) : okD zs = decide ((nD zs).length ≤ 200) := by
  unfold okD
  rw [h, Bool.true_and, nD_len]

set_option maxRecDepth 100000 in
set_option maxHeartbeats 2000000 in
theorem implD_any {w : World} {B : Nat} {v : Value} {zs : List Int} (_hz : zs.length ≤ 1048576) (hI : Ints w B v zs) (hm : Held w 1 marksF) (hc : Held w 4 capF) (ho : Held w 5 othF) :
    Calls Tryz.prog 73 #[v] w fun e w' => ∃ v', e = .returned (.tuple #[v', .bool (okD zs)]) ∧ Ints w' w.heap.size v' (ansD zs) ∧ Below w.heap.size w w' := by
  have F := fullD_any hI hm hc ho
  have hlen := fullA_len zs
  unfold ansD
  clear hI hm hc ho
  cases hok : okR zs
  · rw [hok] at F
    rw [okD_no hok, if_neg (by simp)]
    clear hok hlen
    go_enter Tryz.func73, Tryz.ntmps73
    go_wp2_with fail
    refine F.mono ?_
    rintro e w1 ⟨v1, rfl, h1, h2⟩
    clear F
    go_wp2
    go_ret2
    exact ⟨_, rfl, ⟨rfl, .inl ⟨rfl, rfl⟩⟩, h2⟩
  · rw [hok] at F
    unfold fullA at F hlen
    rw [okD_eq hok]
    rw [hok, if_pos rfl] at F hlen
    clear hok
    generalize nD zs = ds at *
    by_cases hl : ds.length ≤ 200
    · have hl2 : ¬ (200 : Int) < (ds.length : Int) := by omega
      rw [decide_eq_true hl, if_pos rfl]
      go_enter Tryz.func73, Tryz.ntmps73
      go_wp2_with fail
      refine F.mono ?_
      rintro e w1 ⟨v1, rfl, h1, h2⟩
      clear F
      rcases h1.form with ⟨rfl, rfl⟩ | ⟨g, cap, rfl, _, _⟩
      · go_wp2
        go_ret2
        exact ⟨_, rfl, h1, h2⟩
      · go_wp2
        go_ret2
        exact ⟨_, rfl, h1, h2⟩
    · have hl2 : (200 : Int) < (ds.length : Int) := by omega
      rw [decide_eq_false hl, if_neg (by simp)]
      go_enter Tryz.func73, Tryz.ntmps73
      go_wp2_with fail
      refine F.mono ?_
      rintro e w1 ⟨v1, rfl, h1, h2⟩
      clear F
      rcases h1.form with ⟨rfl, rfl⟩ | ⟨g, cap, rfl, _, _⟩
      · exact absurd (by simp) hl
      · go_wp2
        go_ret2
        exact ⟨_, rfl, ⟨rfl, .inl ⟨rfl, rfl⟩⟩, h2⟩
end Go.Proofs.YtakfnmhokijcoaaGreatDoor

namespace Go.Proofs.YtakfnmhokijcoaaGreatDoor
open Go.RowKit

theorem form_m (b m : Nat) (hb : b < 256) (hm : Dec.more b = (m : Int)) (w : World) :
    Calls Tryz.prog 92 #[.int .u8 (b : Int)] w fun e w' => e = .returned (.tuple #[.int .i64 ((m : Int) + 1), .int .u8 (Dec.lo1 b : Int), .int .u8 (Dec.hi1 b : Int)]) ∧ w' = w := by
  have h := form_any b hb w
  rw [hm] at h
  exact h

theorem form_no (b : Nat) (hb : b < 256) (hm : Dec.more b = -1) (w : World) :
    Calls Tryz.prog 92 #[.int .u8 (b : Int)] w fun e w' => e = .returned (.tuple #[.int .i64 0, .int .u8 (Dec.lo1 b : Int), .int .u8 (Dec.hi1 b : Int)]) ∧ w' = w := by
  have h := form_any b hb w
  rw [hm] at h
  exact h

theorem ret_ib {a a' : Int} {b b' : Bool} (h1 : a = a') (h2 : b = b') :
    Ending.returned (.tuple #[.int .i64 a, .bool b]) = .returned (.tuple #[.int .i64 a', .bool b']) := by rw [h1, h2]

theorem front_end (t : ByteArray) (m k lo hi r : Nat) (o : Int × Nat × Bool) (h : Dec.goes t m (m + 1 - k) k lo hi r = o) (hk : k ≤ m + 1)
    (hn : ¬ k < m + 1 ∨ ¬ (k < t.size ∧ lo ≤ Dec.bt t k ∧ Dec.bt t k ≤ hi)) : (k : Int) = (o.2.1 : Int) ∧ ((k : Int) == (m : Int) + 1) = o.2.2 := by
  by_cases c : k < m + 1
  · have hn' : ¬ (k < t.size ∧ lo ≤ Dec.bt t k ∧ Dec.bt t k ≤ hi) := by rcases hn with h | h; exact absurd c h; exact h
    rw [show m + 1 - k = (m - k) + 1 by omega, Dec.goes_no hn'] at h
    subst h
    refine ⟨rfl, ?_⟩
    simp; omega
  · have : k = m + 1 := by omega
    subst this
    rw [show m + 1 - (m + 1) = 0 by omega] at h
    subst h
    simp [Dec.goes]

theorem front_step (t : ByteArray) (m k lo hi r : Nat) (o : Int × Nat × Bool) (h : Dec.goes t m (m + 1 - k) k lo hi r = o) (hk : k < m + 1)
    (hy : k < t.size ∧ lo ≤ Dec.bt t k ∧ Dec.bt t k ≤ hi) : Dec.goes t m (m + 1 - (k + 1)) (k + 1) 128 191 (r * 64 + Dec.bt t k % 64) = o := by
  rw [show m + 1 - k = (m + 1 - (k + 1)) + 1 by omega, Dec.goes_yes _ rfl hy] at h
  exact h

set_option maxRecDepth 100000 in
set_option maxHeartbeats 1000000 in
theorem front_any (t : ByteArray) (h0 : 0 < t.size) (ht : t.size ≤ maxLen) (w : World) :
    Calls Tryz.prog 88 #[.string t] w fun e w' => e = .returned (.tuple #[.int .i64 ((Dec.one t).2.1 : Int), .bool (Dec.one t).2.2]) ∧ w' = w := by
  unfold maxLen at ht
  have hb0 : (t[0]'h0).toNat < 256 := (t[0]'h0).toNat_lt
  have e0 := Dec.bt_get t 0 h0
  rcases Dec.more_cases (t[0]'h0).toNat with hm | hm
  · have ho : Dec.one t = (65533, 1, false) := by unfold Dec.one; rw [← e0, hm]; rfl
    rw [ho]
    clear ho e0
    have F := fun w => form_no _ hb0 hm w
    clear hm
    go_enter Tryz.func88, Tryz.ntmps88
    go_wp2_with (go_at_call 92; refine (F _).mono ?_; rintro e w' ⟨rfl, rfl⟩)
    go_loop [5, 6, 7] (fun _ _ k => k = .int .i64 1) (fun _ _ _ => 0)
    case atStart => rfl
    case round =>
      subst hrel
      go_wp2
      go_ret2
      exact ⟨rfl, rfl⟩
  · obtain ⟨m, hm3, hm⟩ : ∃ m : Nat, m ≤ 3 ∧ Dec.more (t[0]'h0).toNat = (m : Int) := by
      rcases hm with h | h | h | h
      · exact ⟨0, by omega, h⟩
      · exact ⟨1, by omega, h⟩
      · exact ⟨2, by omega, h⟩
      · exact ⟨3, by omega, h⟩
    have HO : Hid (Dec.goes t m m 1 (Dec.lo1 (t[0]'h0).toNat) (Dec.hi1 (t[0]'h0).toNat) (Dec.first (t[0]'h0).toNat m) = Dec.one t) := by
      show _ = _
      unfold Dec.one
      rw [← e0, hm, if_neg (by omega)]
      rfl
    have F := fun w => form_m _ m hb0 hm w
    clear hm e0
    generalize Dec.one t = o at *
    have hl1 : Dec.lo1 (t[0]'h0).toNat < 256 := by unfold Dec.lo1; repeat' split
                                                   all_goals omega
    have hh1 : Dec.hi1 (t[0]'h0).toNat < 256 := by unfold Dec.hi1; repeat' split
                                                   all_goals omega
    go_enter Tryz.func88, Tryz.ntmps88
    go_wp2_with (go_at_call 92; refine (F _).mono ?_; rintro e w' ⟨rfl, rfl⟩)
    go_loop [5, 6, 7] (fun lo hi k => ∃ k' lo' hi' r : Nat, 1 ≤ k' ∧ k' ≤ m + 1 ∧ k' ≤ t.size ∧ lo' < 256 ∧ hi' < 256 ∧ k = .int .i64 k' ∧ lo = .int .u8 lo' ∧ hi = .int .u8 hi' ∧ Hid (Dec.goes t m (m + 1 - k') k' lo' hi' r = o)) (fun _ _ k => m + 1 - (intOf k).toNat)
    case atStart => exact ⟨1, _, _, _, by omega, by omega, by omega, hl1, hh1, rfl, rfl, rfl, HO⟩
    case round =>
      obtain ⟨k, lo, hi, r, hk1, hk2, hk3, hlo, hhi, rfl, rfl, rfl, HG⟩ := hrel
      clear HO F
      by_cases c1 : k < m + 1
      · by_cases c2 : k < t.size
        · have ek := Dec.bt_get t k c2
          have EK : Hid (Dec.bt t k = (t[k]'c2).toNat) := ek.symm
          clear ek
          have hbk : (t[k]'c2).toNat < 256 := (t[k]'c2).toNat_lt
          by_cases c3 : (lo : Int) ≤ ((t[k]'c2).toNat : Int)
          · by_cases c4 : ((t[k]'c2).toNat : Int) ≤ (hi : Int)
            · have HS : Hid _ := front_step t m k lo hi r o HG.out c1 ⟨c2, by rw [EK.out]; omega⟩
              go_wp2
              go_round
              case rel => exact ⟨k + 1, 128, 191, _, by omega, by omega, by omega, by omega, by omega, by go_num, rfl, rfl, HS⟩
              case measure => simp [intOf]; omega
            · have HS := front_end t m k lo hi r o HG.out hk2 (.inr (by rw [EK.out]; omega))
              have HS' : Hid _ := HS
              clear HS
              go_wp2
              go_ret2
              exact ⟨ret_ib HS'.out.1 HS'.out.2, rfl⟩
          · have HS' : Hid _ := front_end t m k lo hi r o HG.out hk2 (.inr (by rw [EK.out]; omega))
            go_wp2
            go_ret2
            exact ⟨ret_ib HS'.out.1 HS'.out.2, rfl⟩
        · have HS' : Hid _ := front_end t m k lo hi r o HG.out hk2 (.inr (by omega))
          go_wp2
          go_ret2
          exact ⟨ret_ib HS'.out.1 HS'.out.2, rfl⟩
      · have HS' : Hid _ := front_end t m k lo hi r o HG.out hk2 (.inl c1)
        go_wp2
        go_ret2
        exact ⟨ret_ib HS'.out.1 HS'.out.2, rfl⟩
end Go.Proofs.YtakfnmhokijcoaaGreatDoor

namespace Go.Proofs.YtakfnmhokijcoaaGreatDoor
open Go.RowKit

theorem lead_m (b m : Nat) (hb : b < 256) (h1 : 1 ≤ m) (hm : Dec.more b = (m : Int)) (w : World) :
    Calls Tryz.prog 40 #[.int .u8 (b : Int)] w fun e w' => e = .returned (.tuple #[.int .i64 (m : Int), .int .u8 (Dec.lo1 b : Int), .int .u8 (Dec.hi1 b : Int)]) ∧ w' = w := by
  have h := lead_any b hb w
  have e1 : Dec.lo0 b = Dec.lo1 b := by unfold Dec.lo0; rw [hm, if_neg (by omega)]
  have e2 : Dec.hi0 b = Dec.hi1 b := by unfold Dec.hi0; rw [hm, if_neg (by omega)]
  rw [hm, e1, e2] at h
  exact h

theorem lead_0 (b : Nat) (hb : b < 256) (c : Int) (hc : c ≤ 0) (hm : Dec.more b = c) (w : World) :
    Calls Tryz.prog 40 #[.int .u8 (b : Int)] w fun e w' => e = .returned (.tuple #[.int .i64 c, .int .u8 0, .int .u8 0]) ∧ w' = w := by
  have h := lead_any b hb w
  have e1 : Dec.lo0 b = 0 := by unfold Dec.lo0; rw [hm, if_pos (by omega)]
  have e2 : Dec.hi0 b = 0 := by unfold Dec.hi0; rw [hm, if_pos (by omega)]
  rw [hm, e1, e2] at h
  exact h

theorem ret_iib {a a' c c' : Int} {b b' : Bool} (h1 : a = a') (h0 : c = c') (h2 : b = b') :
    Ending.returned (.tuple #[.int .i64 a, .int .i64 c, .bool b]) = .returned (.tuple #[.int .i64 a', .int .i64 c', .bool b']) := by rw [h1, h2, h0]

theorem wraps40 (n : Int) (h0 : 0 ≤ n) (h1 : n < 2 ^ 40) : IntKind.i64.wrap n = n := by
  have e : (2 : Int) ^ 40 = 1099511627776 := by decide
  rw [e] at h1; rw [IntKind.wrap_i64]; omega

theorem and_low (x i : Nat) (hi : i ≤ 6) (hx : x < 256) : bits .and .i64 (x : Int) (2 ^ i - 1) = ((x % 2 ^ i : Nat) : Int) := by
  have e : (2 : Int) ^ 40 = 1099511627776 := by decide
  rw [bits_mask .i64 40 (by decide) wraps40 i (by omega) (x : Int) (by omega) (by rw [e]; omega)]
  simp

theorem first_bits (x m : Nat) (hx : x < 256) (h1 : 1 ≤ m) (h3 : m ≤ 3) : bits .and .i64 (x : Int) (63 / 2 ^ m) = (Dec.first x m : Int) := by
  match m, h1, h3 with
  | 1, _, _ => exact and_low x 5 (by omega) hx
  | 2, _, _ => exact and_low x 4 (by omega) hx
  | 3, _, _ => exact and_low x 3 (by omega) hx

theorem join6 (r x : Nat) (hr : r < 262144) (hx : x < 256) : bits .or .i64 ((r : Int) * 64) (bits .and .i64 (x : Int) 63) = ((r * 64 + x % 64 : Nat) : Int) := by
  have e : (2 : Int) ^ 40 = 1099511627776 := by decide
  have e6 : (2 : Int) ^ 6 = 64 := by decide
  have h := and_low x 6 (by omega) hx
  have h63 : ((2 : Int) ^ 6 - 1) = 63 := by decide
  have h64 : 2 ^ 6 = 64 := by decide
  rw [h63, h64] at h
  rw [h, bits_join .i64 40 (by decide) wraps40 6 _ _ (by omega) (by rw [e6]; omega) (by rw [e]; omega) (by omega) (by rw [e6]; omega) (by rw [e]; omega)]
  omega

theorem pow_bd (k : Nat) (h : k ≤ 3) : 64 ^ k ≤ 262144 := by
  match k, h with
  | 0, _ => decide
  | 1, _ => decide
  | 2, _ => decide
  | 3, _ => decide

theorem first_lt (x m : Nat) (h1 : 1 ≤ m) (h3 : m ≤ 3) : Dec.first x m < 64 := by
  match m, h1, h3 with
  | 1, _, _ => show x % 32 < 64; omega
  | 2, _, _ => show x % 16 < 64; omega
  | 3, _, _ => show x % 8 < 64; omega

theorem one_end (t : ByteArray) (m k lo hi r : Nat) (o : Int × Nat × Bool) (h : Dec.goes t m (m + 1 - k) k lo hi r = o)
    (hk : k = m + 1) : (r : Int) = o.1 ∧ ((m : Int) + 1) = (o.2.1 : Int) ∧ true = o.2.2 := by
  subst hk
  rw [show m + 1 - (m + 1) = 0 by omega] at h
  subst h
  simp [Dec.goes]

theorem one_bad (t : ByteArray) (m k lo hi r : Nat) (o : Int × Nat × Bool) (h : Dec.goes t m (m + 1 - k) k lo hi r = o) (hk : k < m + 1)
    (hn : ¬ (k < t.size ∧ lo ≤ Dec.bt t k ∧ Dec.bt t k ≤ hi)) : (65533 : Int) = o.1 ∧ (k : Int) = (o.2.1 : Int) ∧ false = o.2.2 := by
  rw [show m + 1 - k = (m - k) + 1 by omega, Dec.goes_no hn] at h
  subst h
  exact ⟨rfl, rfl, rfl⟩

set_option maxRecDepth 100000 in
set_option maxHeartbeats 2000000 in
theorem one_any (t : ByteArray) (h0 : 0 < t.size) (ht : t.size ≤ maxLen) (w : World) :
    Calls Tryz.prog 28 #[.string t] w fun e w' => e = .returned (.tuple #[.int .i64 (Dec.one t).1, .int .i64 ((Dec.one t).2.1 : Int), .bool (Dec.one t).2.2]) ∧ w' = w := by
  unfold maxLen at ht
  have hb0 : (t[0]'h0).toNat < 256 := (t[0]'h0).toNat_lt
  have e0 := Dec.bt_get t 0 h0
  rcases Dec.more_cases (t[0]'h0).toNat with hm | hm | hm
  · have ho : Dec.one t = (65533, 1, false) := by unfold Dec.one; rw [← e0, hm]; rfl
    rw [ho]
    clear ho e0
    have F := fun w => lead_0 _ hb0 (-1) (by omega) hm w
    clear hm
    go_enter Tryz.func28, Tryz.ntmps28
    go_wp2_with (go_at_call 40; refine (F _).mono ?_; rintro e w' ⟨rfl, rfl⟩)
    go_ret3
    exact ⟨rfl, rfl⟩
  · have ho : Dec.one t = (((t[0]'h0).toNat : Int), 1, true) := by unfold Dec.one; rw [← e0, hm]; rfl
    rw [ho]
    clear ho e0
    have F := fun w => lead_0 _ hb0 0 (by omega) hm w
    clear hm
    go_enter Tryz.func28, Tryz.ntmps28
    go_wp2_with (go_at_call 40; refine (F _).mono ?_; rintro e w' ⟨rfl, rfl⟩)
    go_ret3
    exact ⟨rfl, rfl⟩
  · obtain ⟨m, hm1, hm3, hm⟩ : ∃ m : Nat, 1 ≤ m ∧ m ≤ 3 ∧ Dec.more (t[0]'h0).toNat = (m : Int) := by
      rcases hm with h | h | h
      · exact ⟨1, by omega, by omega, h⟩
      · exact ⟨2, by omega, by omega, h⟩
      · exact ⟨3, by omega, by omega, h⟩
    have HO : Hid (Dec.goes t m m 1 (Dec.lo1 (t[0]'h0).toNat) (Dec.hi1 (t[0]'h0).toNat) (Dec.first (t[0]'h0).toNat m) = Dec.one t) := by
      show _ = _
      unfold Dec.one
      rw [← e0, hm, if_neg (by omega)]
      rfl
    have F := fun w => lead_m _ m hb0 hm1 hm w
    clear hm e0
    generalize Dec.one t = o at *
    have hl1 : Dec.lo1 (t[0]'h0).toNat < 256 := by unfold Dec.lo1; repeat' split
                                                   all_goals omega
    have hh1 : Dec.hi1 (t[0]'h0).toNat < 256 := by unfold Dec.hi1; repeat' split
                                                   all_goals omega
    go_enter Tryz.func28, Tryz.ntmps28
    go_wp2_with (go_at_call 40; refine (F _).mono ?_; rintro e w' ⟨rfl, rfl⟩)
    have HF : Hid _ := first_bits (t[0]'h0).toNat m hb0 hm1 hm3
    have hfl := first_lt (t[0]'h0).toNat m hm1 hm3
    go_loop [6, 7, 8, 9] (fun lo hi a k => ∃ k' lo' hi' r : Nat, 1 ≤ k' ∧ k' ≤ m + 1 ∧ k' ≤ t.size ∧ lo' < 256 ∧ hi' < 256 ∧ r < 64 ^ k' ∧ k = .int .i64 k' ∧ lo = .int .u8 lo' ∧ hi = .int .u8 hi' ∧ a = .int .i64 r ∧ Hid (Dec.goes t m (m + 1 - k') k' lo' hi' r = o)) (fun _ _ _ k => m + 1 - (intOf k).toNat)
    case atStart => exact ⟨1, _, _, _, by omega, by omega, by omega, hl1, hh1, by omega, rfl, rfl, rfl, by rw [HF.out], HO⟩
    case round =>
      obtain ⟨k, lo, hi, r, hk1, hk2, hk3, hlo, hhi, hr, rfl, rfl, rfl, rfl, HG⟩ := hrel
      clear HO F HF hfl
      by_cases c1 : k < m + 1
      · have hr2 : r < 262144 := Nat.lt_of_lt_of_le hr (pow_bd k (by omega))
        by_cases c2 : k < t.size
        · have EK : Hid (Dec.bt t k = (t[k]'c2).toNat) := (Dec.bt_get t k c2).symm
          have hbk : (t[k]'c2).toNat < 256 := (t[k]'c2).toNat_lt
          have hke : ((k : Int) == (t.size : Int)) = false := by simp; omega
          by_cases c3 : (lo : Int) ≤ ((t[k]'c2).toNat : Int)
          · by_cases c4 : ((t[k]'c2).toNat : Int) ≤ (hi : Int)
            · have HS : Hid _ := front_step t m k lo hi r o HG.out c1 ⟨c2, by rw [EK.out]; omega⟩
              have HJ : Hid _ := join6 r (t[k]'c2).toNat hr2 hbk
              have HR : Hid (r < 64 ^ k) := hr
              clear hr
              go_wp2
              go_round
              case rel =>
                (repeat apply Exists.intro)
                refine ⟨?_, rfl, rfl, rfl, rfl, rfl, rfl, rfl⟩
                exact ⟨k + 1, by omega, by omega, by omega, 128, by omega, 191, by omega, r * 64 + Dec.bt t k % 64, by have := HR.out; rw [Nat.pow_succ]; omega, by go_num, rfl, rfl, by rw [EK.out, HJ.out], HS⟩
              case measure => simp [intOf]; omega
            · have HS : Hid _ := one_bad t m k lo hi r o HG.out c1 (by rw [EK.out]; omega)
              go_wp2
              go_ret3
              exact ⟨ret_iib HS.out.1 HS.out.2.1 HS.out.2.2, rfl⟩
          · have HS : Hid _ := one_bad t m k lo hi r o HG.out c1 (by rw [EK.out]; omega)
            go_wp2
            go_ret3
            exact ⟨ret_iib HS.out.1 HS.out.2.1 HS.out.2.2, rfl⟩
        · have HS : Hid _ := one_bad t m k lo hi r o HG.out c1 (by omega)
          have hke : ((k : Int) == (t.size : Int)) = true := by simp; omega
          go_wp2
          go_ret3
          exact ⟨ret_iib HS.out.1 HS.out.2.1 HS.out.2.2, rfl⟩
      · have HS : Hid _ := one_end t m k lo hi r o HG.out (by omega)
        go_wp2
        go_ret3
        exact ⟨ret_iib HS.out.1 HS.out.2.1 HS.out.2.2, rfl⟩
end Go.Proofs.YtakfnmhokijcoaaGreatDoor
