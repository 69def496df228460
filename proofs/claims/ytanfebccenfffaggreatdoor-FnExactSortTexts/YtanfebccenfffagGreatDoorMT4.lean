/- Texts of mine laid together: IGood3, Norm3, IElems, OkE, IElems2. -/
import Derived.Test.YtanfebccenfffagGreatDoorMT2
import Derived.Deep.RegionHeld3
import Derived.Test.YtanfebccenfffagGreatDoorNorm2
import Derived.Test.YtanfebccenfffagGreatDoorMT3
import Derived.Test.YtanfebccenfffagGreatDoorPKey2
namespace Go.Proofs.YtanfebccenfffagGreatDoor
open Go.RowKit

/-- What stands in the region that looks for an entry with the same runes ahead. -/
def Gin (w0 : World) (b1 b4 : Nat) (v x : Value) (u : World) : Prop := u.cell? ⟨b1, 0, none⟩ = some v ∧ u.cell? ⟨b4, 0, none⟩ = some x ∧ Below w0.heap.size w0 u
theorem Gin.keep {w0 w1 w2 : World} {b1 b4 : Nat} {v x : Value} (h1 : b1 < w0.heap.size) (h4 : b4 < w0.heap.size) (hb : Below w1.heap.size w1 w2) (h : Gin w0 b1 b4 v x w1) : Gin w0 b1 b4 v x w2 := by
  obtain ⟨a, b, c⟩ := h
  exact ⟨by rw [hb.cell (Nat.lt_of_lt_of_le h1 c.size)]; exact a, by rw [hb.cell (Nat.lt_of_lt_of_le h4 c.size)]; exact b, c.trans (hb.mono c.size)⟩

theorem Gin.set4 {w0 u : World} {b1 b4 : Nat} {v x : Value} (h1 : b1 < w0.heap.size) (h4 : b4 < w0.heap.size) (a b c d : Value) (h : Gin w0 b1 b4 v x u) : Gin w0 b1 b4 v x ((((u.setCell ⟨w0.heap.size, 0, none⟩ a).setCell ⟨w0.heap.size, 1, none⟩ b).setCell ⟨w0.heap.size, 2, none⟩ c).setCell ⟨w0.heap.size, 3, none⟩ d) := by
  obtain ⟨p, q, r⟩ := h
  have n1 : ∀ (m : World) (o : Nat) (y : Value), (m.setCell ⟨w0.heap.size, o, none⟩ y).cell? ⟨b1, 0, none⟩ = m.cell? ⟨b1, 0, none⟩ := fun m o y => World.cell?_setCell_other _ _ _ _ (fun e => by injection e; omega)
  have n4 : ∀ (m : World) (o : Nat) (y : Value), (m.setCell ⟨w0.heap.size, o, none⟩ y).cell? ⟨b4, 0, none⟩ = m.cell? ⟨b4, 0, none⟩ := fun m o y => World.cell?_setCell_other _ _ _ _ (fun e => by injection e; omega)
  exact ⟨by rw [n1, n1, n1, n1]; exact p, by rw [n4, n4, n4, n4]; exact q, (((r.setCell (Nat.le_refl _) _).setCell (Nat.le_refl _) _).setCell (Nat.le_refl _) _).setCell (Nat.le_refl _) _⟩

theorem entry_keep {u : World} {B B' n : Nat} {v vl : Value} {es : List Ent} {l : List Int} (hE : Ents u B v es) (hL : Ints u B' vl l) (hn : es.length ≤ 1048576) (hl : l.length ≤ 1048576) (hr : ∀ e ∈ es, e.runes.length ≤ 1048576) :
    Calls Tryz.prog 50 #[v, vl] u fun e w' => e = .returned (elRes (entOf es l)) ∧ Below u.heap.size u w' ∧ (∀ j, n < u.heap.size → w'.cell? ⟨n, j, none⟩ = u.cell? ⟨n, j, none⟩) ∧ ∀ j, n < u.heap.size → w'.frozen? ⟨n, j, none⟩ = u.frozen? ⟨n, j, none⟩ :=
  (entry_any hE hL hn hl hr).mono fun _ _ h => ⟨h.1, h.2, fun _ hj => h.2.cell hj, fun j hj => h.2.frozen (p := ⟨n, j, none⟩) hj⟩

theorem entOk_split (es : List Ent) (i : Nat) (e : Ent) : entOk es i e = (runesOk e.runes && (decide (atE es e.runes = (i : Int)) && elOk e.el)) := rfl

set_option maxRecDepth 100000 in
set_option maxHeartbeats 2000000 in
theorem good3i_long (w : World) (a : Option Addr) (n c : Nat) (sh : Bool) (lv : Int) (h : 40 < n) : Calls Tryz.prog 25 #[.agg #[.slice a n c, .bool sh, .int .i64 lv]] w fun e w' => e = .returned (.bool false) ∧ Below w.heap.size w w' := by
  have h2 : (40 : Int) < (n : Int) := by omega
  go_enter Tryz.func25, Tryz.ntmps25
  go_wp2
  go_ret
  exact ⟨rfl, (Below.refl _ _).alloc (Nat.le_refl _) _⟩

set_option maxRecDepth 100000 in
set_option maxHeartbeats 2000000 in
theorem good3i_lev (w : World) (a : Option Addr) (n c : Nat) (sh : Bool) (lv : Int) (h : n ≤ 40) (hl : ¬ (1 ≤ lv ∧ lv ≤ 4)) : Calls Tryz.prog 25 #[.agg #[.slice a n c, .bool sh, .int .i64 lv]] w fun e w' => e = .returned (.bool false) ∧ Below w.heap.size w w' := by
  have h2 : ¬ (40 : Int) < (n : Int) := by omega
  by_cases h3 : lv < 1
  · clear hl
    go_enter Tryz.func25, Tryz.ntmps25
    go_wp2
    go_ret
    exact ⟨rfl, (Below.refl _ _).alloc (Nat.le_refl _) _⟩
  · have h4 : 4 < lv := by omega
    clear hl
    go_enter Tryz.func25, Tryz.ntmps25
    go_wp2
    go_ret
    exact ⟨rfl, (Below.refl _ _).alloc (Nat.le_refl _) _⟩

set_option maxRecDepth 100000 in
set_option maxHeartbeats 2000000 in
theorem good3i_nil (w : World) (sh : Bool) (lv : Int) (hl : 1 ≤ lv ∧ lv ≤ 4) : Calls Tryz.prog 25 #[.agg #[.slice none 0 0, .bool sh, .int .i64 lv]] w fun e w' => e = .returned (.bool true) ∧ Below w.heap.size w w' := by
  obtain ⟨h3, h4⟩ := hl
  go_enter Tryz.func25, Tryz.ntmps25
  go_wp2
  go_loop [24] (fun i => i = .int .i64 0) (fun _ => 0)
  case atStart => rfl
  case round =>
    subst hrel
    go_wp2
    go_ret
    exact ⟨rfl, (Below.refl _ _).alloc (Nat.le_refl _) _⟩

/-- The block of an entry that is looked at. -/
def Eb (u : World) (b : Nat) (x : Value) (e : El) : Prop := u.heap[b]? = some (.cells #[x, .int .i64 e.first, .int .i64 e.second, .int .i64 e.third, .bool e.varies] 82)
theorem Eb.facts {u : World} {b : Nat} {x : Value} {e : El} (h : Eb u b x e) : b < u.heap.size ∧ u.cell? ⟨b, 0, none⟩ = some x ∧ u.cell? ⟨b, 1, none⟩ = some (.int .i64 e.first) ∧ u.cell? ⟨b, 2, none⟩ = some (.int .i64 e.second) ∧ u.cell? ⟨b, 3, none⟩ = some (.int .i64 e.third) ∧ u.cell? ⟨b, 4, none⟩ = some (.bool e.varies) :=
  ⟨(Array.getElem?_eq_some_iff.1 h).1, cell_of_row _ _ 0 _ _ _ h, cell_of_row _ _ 1 _ _ _ h, cell_of_row _ _ 2 _ _ _ h, cell_of_row _ _ 3 _ _ _ h, cell_of_row _ _ 4 _ _ _ h⟩
theorem Eb.below {u u' : World} {b : Nat} {x : Value} {e : El} (h : Eb u b x e) (hb : Below u.heap.size u u') : Eb u' b x e := (hb.block _ h.facts.1).trans h

set_option maxRecDepth 100000 in
set_option maxHeartbeats 8000000 in
theorem good3i_row (w : World) (B g cap : Nat) (es : List Ent) (sh : Bool) (lv : Int) (hE : Ents w B (.slice (some ⟨g, 0, none⟩) es.length cap) es) (hn : es.length ≤ 40) (hl : 1 ≤ lv ∧ lv ≤ 4) (hr : ∀ e ∈ es, e.runes.length ≤ 1048576) (ht : Tabs3 w) :
    Calls Tryz.prog 25 #[.agg #[.slice (some ⟨g, 0, none⟩) es.length cap, .bool sh, .int .i64 lv]] w fun e w' => e = .returned (.bool (rulesOk es lv)) ∧ Below w.heap.size w w' := by
  obtain ⟨hl1, hl2⟩ := hl
  have hn2 : ¬ (40 : Int) < (es.length : Int) := by omega
  have HT : Hid (Tabs3 w) := ht
  have hcap : es.length ≤ cap ∧ cap ≤ maxLen := by
    rcases hE.form with ⟨h, _⟩ | ⟨_, _, h, h2, h3, _, _⟩
    · cases h
    · cases h; exact ⟨h2, h3⟩
  unfold maxLen at hcap
  clear ht
  go_enter Tryz.func25, Tryz.ntmps25
  go_wp2
  go_loopw [24] (fun i wr => GRel w (.slice (some ⟨g, 0, none⟩) es.length cap) sh lv es i wr) (fun i _ => es.length - (intOf i).toNat)
  case atStart => exact ⟨0, Nat.zero_le _, rfl, fun i e hi => by omega, ⟨by simp, by simp [World.cell?_alloc_new], by simp [World.cell?_alloc_new], by simp [World.cell?_alloc_new]⟩, (Below.refl _ _).alloc (Nat.le_refl _) _⟩
  case round =>
    obtain ⟨k, hk, rfl, HN0, hbx, hb⟩ := hrel
    have HN : Hid (EntsTo es k) := HN0
    clear HN0
    by_cases hlt : k < es.length
    · obtain ⟨e, he⟩ : ∃ e, es[k]? = some e := ⟨_, List.getElem?_eq_getElem hlt⟩
      obtain ⟨x, hI, a0, a1, a2, a3, a4⟩ := (hE.below hb).cells k e he
      obtain ⟨xa, xn, xc, rfl⟩ : ∃ xa xn xc, x = .slice xa xn xc := by
        rcases hI.form with ⟨rfl, _⟩ | ⟨_, _, rfl, _, _⟩
        · exact ⟨_, _, _, rfl⟩
        · exact ⟨_, _, _, rfl⟩
      have hk8 : (k : Int) < (es.length : Int) := by omega
      have hrl := hr e (List.mem_of_getElem? he)
      have hbr := (Below.refl wr.heap.size wr).alloc (Nat.le_refl _) (.cells #[.slice xa xn xc, .int .i64 e.el.first, .int .i64 e.el.second, .int .i64 e.el.third, .bool e.el.varies] 82)
      have hba := hb.trans (hbr.mono hb.size)
      have hE2 := (hE.below hb).below hbr
      have JN := joined_any hrl (hI.below hbr) ((HT.out.below hb).below hbr)
      have HE : Hid _ := he
      have HI2 : Hid (Ints _ _ _ _) := hI.below hbr
      have HE2 : Hid (Ents _ _ _ _) := hE2
      have HB : Hid (Below _ _ _) := hba
      have HX : Hid (Box3 _ _ _ _ _) := hbx.below hbr
      have HG : Hid (Eb _ _ _ _) := show Eb (wr.alloc _) wr.heap.size (.slice xa xn xc) e.el from heap_alloc_new _ _
      clear he hI hE2 hba hbr hbx hb HT
      go_wp2_with fail
      refine JN.mono ?_
      rintro e' w2 ⟨rfl, b2⟩
      have c2 : Hid (Below _ _ _) := HB.out.trans (b2.mono HB.out.size)
      have g2 : Hid (Eb _ _ _ _) := HG.out.below b2
      have x2 : Hid (Box3 _ _ _ _ _) := HX.out.below b2
      have i2 : Hid (Ints _ _ _ _) := HI2.out.below b2
      have ee2 : Hid (Ents _ _ _ _) := HE2.out.below b2
      clear JN a0 a1 a2 a3 a4 HB HX HG HI2 HE2 b2
      cases r1 : runesOk e.runes
      · have HF : Hid (rulesOk es lv = false) := rulesOk_ent HE.out (by rw [entOk_split, r1, Bool.false_and])
        clear HN HE hE hr
        go_wp2
        go_ret
        rw [HF.out]
        exact ⟨rfl, c2.out⟩
      · obtain ⟨_, d0, d1, d2, d3, d4⟩ := g2.out.facts
        have GE := fun w => goodElem_any e.el w
        go_wp2_with fail
        refine (GE _).mono ?_
        rintro e' w3 ⟨rfl, b3⟩
        have c3 : Hid (Below _ _ _) := c2.out.trans (b3.mono c2.out.size)
        have g3 : Hid (Eb _ _ _ _) := g2.out.below b3
        have x3 : Hid (Box3 _ _ _ _ _) := x2.out.below b3
        have i3 : Hid (Ints _ _ _ _) := i2.out.below b3
        have ee3 : Hid (Ents _ _ _ _) := ee2.out.below b3
        clear GE d0 d1 d2 d3 d4 c2 g2 x2 i2 ee2 b3
        cases r2 : elOk e.el
        · have HF : Hid (rulesOk es lv = false) := rulesOk_ent HE.out (by rw [entOk_split, r2]; simp)
          clear HN HE hE hr
          go_wp2
          go_ret
          rw [HF.out]
          exact ⟨rfl, c3.out⟩
        · have hk9 : (k : Int) ≤ (cap : Int) := by omega
          have hg4 := g3.out.facts.1
          have hg1 := x3.out.1
          have hS : w3.cell? ⟨w.heap.size, 0, none⟩ = some (.slice (some ⟨g, 0, none⟩) es.length cap) ∧ w3.cell? ⟨wr.heap.size, 0, none⟩ = some (.slice xa xn xc) ∧ Below w3.heap.size w3 w3 := ⟨x3.out.2.1, g3.out.facts.2.1, Below.refl _ _⟩
          have hS2 := Gin.keep hg1 hg4 ((Below.refl w3.heap.size w3).drew) hS
          have K := fun (u1 u2 : World) (hb : Below u1.heap.size u1 u2) (hu : u1.cell? ⟨w.heap.size, 0, none⟩ = some (.slice (some ⟨g, 0, none⟩) es.length cap) ∧ u1.cell? ⟨wr.heap.size, 0, none⟩ = some (.slice xa xn xc) ∧ Below w3.heap.size w3 u1) => Gin.keep hg1 hg4 hb hu
          have hS3 := Gin.keep hg1 hg4 (((Below.refl w3.heap.size w3).alloc (Nat.le_refl _) (.cells #[.int .i64 0, .int .i64 0, .int .i64 0, .bool false] 80)).drew) hS
          have K4 := fun (u : World) (a b c d : Value) (hu : u.cell? ⟨w.heap.size, 0, none⟩ = some (.slice (some ⟨g, 0, none⟩) es.length cap) ∧ u.cell? ⟨wr.heap.size, 0, none⟩ = some (.slice xa xn xc) ∧ Below w3.heap.size w3 u) => Gin.set4 hg1 hg4 a b c d hu
          unfold Gin at hS2 hS3 K K4
          have EN := fun (u : World) (hu : u.cell? ⟨w.heap.size, 0, none⟩ = some (.slice (some ⟨g, 0, none⟩) es.length cap) ∧ u.cell? ⟨wr.heap.size, 0, none⟩ = some (.slice xa xn xc) ∧ Below w3.heap.size w3 u) => entry_keep (n := w3.heap.size) ((ee3.out.below hu.2.2).take k hk) (i3.out.below hu.2.2) (by rw [List.length_take]; omega) hrl (fun x hx => hr x (List.mem_of_mem_take hx))
          have HW : Hid (entOf (es.take k) e.runes = none ↔ atE es e.runes = (k : Int)) := atE_here HE.out
          obtain ⟨o, ho⟩ : ∃ o, entOf (es.take k) e.runes = o := ⟨_, rfl⟩
          rw [ho] at EN
          unfold elRes elV at EN
          have HO : Hid (entOf (es.take k) e.runes = o) := ho
          clear ho
          have HXE : Hid (o.isSome = false → EntsTo es (k + 1)) := fun c => HN.out.succ HE.out (by rw [entOk_split, r1, r2, decide_eq_true (HW.out.1 (by rw [HO.out]; simpa using c))]; rfl)
          have HXF : Hid (o.isSome = true → rulesOk es lv = false) := fun c => rulesOk_ent HE.out (by
            have : ¬ atE es e.runes = (k : Int) := fun d => by rw [HW.out.2 d] at HO; have := HO.out; rw [← this] at c; simp at c
            rw [entOk_split, decide_eq_false this]; simp)
          clear HW HO HE HN r1 r2 ee3 i3
          generalize elOf o = x0 at *
          generalize o.isSome = ob at *
          go_wp2_with fail
          go_region_held3 (fun u => u.cell? ⟨w.heap.size, 0, none⟩ = some (.slice (some ⟨g, 0, none⟩) es.length cap) ∧ u.cell? ⟨wr.heap.size, 0, none⟩ = some (.slice xa xn xc) ∧ Below w3.heap.size w3 u)
            (first
              | with_reducible exact hS2
              | with_reducible exact hS3
              | with_reducible exact K _ _ (by assumption) (by assumption)
              | (with_reducible refine K4 _ _ _ _ _ ?_; first | assumption | exact K _ _ (by assumption) (by assumption))
              | (with_reducible refine K _ _ ((Below.refl _ _).alloc (Nat.le_refl _) _) ?_; first | assumption | exact hS2 | exact K _ _ (by assumption) (by assumption)))
            ((go_at_call 50; refine (EN _ (by assumption)).mono ?_; rintro e' w' ⟨rfl, hbw, hcw, hfw⟩))
          all_goals
            clear hS hS2 hS3 K K4 EN
            obtain ⟨_, _, hE9⟩ := (show _ ∧ _ ∧ Below w3.heap.size w3 _ by assumption)
            have x4 : Hid (Box3 _ _ _ _ _) := x3.out.below hE9
            have c4 : Hid (Below _ _ _) := c3.out.trans (hE9.mono c3.out.size)
            cases ob
            · have HN2 : Hid (EntsTo es (k + 1)) := HXE.out rfl
              clear HXE HXF hE9 hr hE
              go_wp2
              exact ⟨⟨k + 1, by omega, by go_num, HN2.out, x4.out, c4.out⟩, by simp [intOf]; omega⟩
            · have HF : Hid (rulesOk es lv = false) := HXF.out rfl
              clear HXE HXF hE9 hr hE
              go_wp2
              go_ret
              rw [HF.out]
              exact ⟨rfl, c4.out⟩
    · have HA : Hid (rulesOk es lv = true) := rulesOk_all HN.out (by omega) hn ⟨hl1, hl2⟩
      clear HN hE hr
      go_wp2
      go_ret
      rw [HA.out]
      exact ⟨rfl, hb⟩

theorem implGood3_any {w : World} {B : Nat} {v : Value} {es : List Ent} {sh : Bool} {lv : Int} (hE : Ents w B v es) (hr : ∀ e ∈ es, e.runes.length ≤ 1048576) (ht : Tabs3 w) :
    Calls Tryz.prog 25 #[.agg #[v, .bool sh, .int .i64 lv]] w fun e w' => e = .returned (.bool (rulesOk es lv)) ∧ Below w.heap.size w w' := by
  obtain ⟨a, c, rfl⟩ : ∃ a c, v = .slice a es.length c := by
    rcases hE.form with ⟨rfl, rfl⟩ | ⟨g, cap, rfl, _, _, _, _⟩
    · exact ⟨_, _, rfl⟩
    · exact ⟨_, _, rfl⟩
  by_cases h1 : es.length ≤ 40
  · by_cases h2 : 1 ≤ lv ∧ lv ≤ 4
    · rcases hE.form with ⟨h, rfl⟩ | ⟨g, cap, h, _, _, _, _⟩
      · rw [h]
        have e0 : rulesOk [] lv = true := decide_eq_true ⟨by simp, h2, rfl⟩
        rw [e0]
        exact good3i_nil w sh lv h2
      · rw [h] at hE ⊢
        exact good3i_row w B g cap es sh lv hE h1 h2 hr ht
    · rw [rulesOk_head (fun h => h2 h.2)]
      exact good3i_lev w a es.length c sh lv h1 h2
  · rw [rulesOk_head (fun h => h1 h.1)]
    exact good3i_long w a es.length c sh lv (by omega)
end Go.Proofs.YtanfebccenfffagGreatDoor

namespace Go.Proofs.YtanfebccenfffagGreatDoor

/-- One rune put behind a sorted list, the list told from its end: it goes down as far as it must. -/
def insR : List Int → Int → List Int
  | [], r => [r]
  | x :: t, r => if 0 < cls r ∧ cls r < cls x then x :: insR t r else r :: x :: t

theorem insR_go {x r : Int} {t : List Int} (h : 0 < cls r ∧ cls r < cls x) : insR (x :: t) r = x :: insR t r := by simp only [insR, if_pos h]
theorem insR_stop {x r : Int} {t : List Int} (h : ¬ (0 < cls r ∧ cls r < cls x)) : insR (x :: t) r = r :: x :: t := by simp only [insR, if_neg h]

theorem at0_left (l m : List Int) (k : Nat) (h : k < l.length) : at0 (l ++ m) k = at0 l k := by
  simp [at0, List.getElem?_append_left h]
theorem at0_mid (l m : List Int) (x : Int) : at0 (l ++ x :: m) l.length = x := by simp [at0]

theorem bub_append (l m : List Int) (k : Nat) (h : k < l.length) : bub (l ++ m) k = bub l k ++ m := by
  induction k generalizing l with
  | zero => rfl
  | succ k ih =>
    have e1 := at0_left l m (k + 1) h
    have e2 := at0_left l m k (by omega)
    by_cases c : 0 < cls (at0 l (k + 1)) ∧ cls (at0 l (k + 1)) < cls (at0 l k)
    · rw [bub_go l k c, bub_go (l ++ m) k (by rw [e1, e2]; exact c), e1, e2, List.set_append_left _ _ h, List.set_append_left _ _ (by simp; omega)]
      exact ih _ (by simp; omega)
    · rw [bub_stop l k c, bub_stop (l ++ m) k (by rw [e1, e2]; exact c)]

theorem srt_append (l m : List Int) (i : Nat) (h : i ≤ l.length) : srt (l ++ m) i = srt l i ++ m := by
  induction i with
  | zero => rfl
  | succ i ih => rw [srt, ih (by omega), bub_append _ _ _ (by rw [srt_length]; omega)]; rfl

theorem bub_snoc (l : List Int) (r : Int) : bub (l ++ [r]) l.length = (insR l.reverse r).reverse := by
  generalize hn : l.length = n
  induction n generalizing l with
  | zero =>
    obtain rfl : l = [] := List.eq_nil_of_length_eq_zero hn
    rfl
  | succ n ih =>
    obtain ⟨l', x, rfl⟩ : ∃ l' x, l = l' ++ [x] := ⟨l.dropLast, l.getLast (by intro h; rw [h] at hn; simp at hn), (List.dropLast_concat_getLast _).symm⟩
    have hl : l'.length = n := by simpa using hn
    have e1 : at0 (l' ++ [x] ++ [r]) (n + 1) = r := by
      have := at0_mid (l' ++ [x]) [] r
      rw [show (l' ++ [x]).length = n + 1 by simp [hl]] at this
      exact this
    have e2 : at0 (l' ++ [x] ++ [r]) n = x := by
      have := at0_mid l' [r] x
      rw [hl] at this
      rw [List.append_assoc]; exact this
    rw [List.reverse_append]
    by_cases c : 0 < cls r ∧ cls r < cls x
    · rw [bub_go _ _ (by rw [e1, e2]; exact c), e1, e2]
      have e3 : ((l' ++ [x] ++ [r]).set (n + 1) x).set n r = (l' ++ [r]) ++ [x] := by
        rw [List.append_assoc, List.append_assoc]
        subst hl
        rw [List.set_append_right _ _ (by omega), List.set_append_right _ _ (by omega)]
        simp
      rw [e3, bub_append _ _ _ (by simp; omega), ih l' hl]
      show _ = (insR (x :: l'.reverse) r).reverse
      rw [insR_go c]; simp
    · rw [bub_stop _ _ (by rw [e1, e2]; exact c)]
      show _ = (insR (x :: l'.reverse) r).reverse
      rw [insR_stop c]; simp

/-- The sorted list, told from its end. -/
def stk (l : List Int) : List Int := l.foldl insR []

theorem stk_snoc (l : List Int) (r : Int) : stk (l ++ [r]) = insR (stk l) r := by simp [stk, List.foldl_append]
theorem stk_append {l l' : List Int} (h : stk l = stk l') (m : List Int) : stk (l ++ m) = stk (l' ++ m) := by
  unfold stk at *
  rw [List.foldl_append, List.foldl_append, h]

theorem sortM_stk (l : List Int) : sortM l = (stk l).reverse := by
  generalize hn : l.length = n
  induction n generalizing l with
  | zero =>
    obtain rfl : l = [] := List.eq_nil_of_length_eq_zero hn
    rfl
  | succ n ih =>
    obtain ⟨l', x, rfl⟩ : ∃ l' x, l = l' ++ [x] := ⟨l.dropLast, l.getLast (by intro h; rw [h] at hn; simp at hn), (List.dropLast_concat_getLast _).symm⟩
    have hl : l'.length = n := by simpa using hn
    have h1 : sortM (l' ++ [x]) = bub (sortM l' ++ [x]) n := by
      unfold sortM
      rw [List.length_append, List.length_singleton, srt, srt_append _ _ _ (Nat.le_refl _), hl]
    have h2 := bub_snoc (sortM l') x
    rw [sortM_length, hl, ih l' hl, List.reverse_reverse] at h2
    rw [h1, ih l' hl, h2, stk_snoc]

theorem stk_of_sort {l l' : List Int} (h : sortM l = sortM l') : stk l = stk l' := by
  rw [sortM_stk, sortM_stk] at h
  exact List.reverse_inj.1 h

theorem insR_comm {a b : Int} (ha : 0 < cls a) (hb : 0 < cls b) (hne : cls a ≠ cls b) (s : List Int) : insR (insR s a) b = insR (insR s b) a := by
  induction s with
  | nil =>
    show insR [a] b = insR [b] a
    by_cases c : cls b < cls a
    · rw [insR_go ⟨hb, c⟩, insR_stop (by omega)]; rfl
    · rw [insR_stop (by omega), insR_go ⟨ha, by omega⟩]; rfl
  | cons x t ih =>
    by_cases ca : cls a < cls x
    · by_cases cb : cls b < cls x
      · rw [insR_go ⟨ha, ca⟩, insR_go ⟨hb, cb⟩, insR_go ⟨hb, cb⟩, insR_go ⟨ha, ca⟩, ih]
      · rw [insR_go ⟨ha, ca⟩, insR_stop (x := x) (r := b) (by omega), insR_stop (x := x) (r := b) (by omega), insR_go (x := b) ⟨ha, by omega⟩, insR_go ⟨ha, ca⟩]
    · by_cases cb : cls b < cls x
      · rw [insR_go (x := x) (r := b) ⟨hb, cb⟩, insR_stop (x := x) (r := a) (by omega), insR_stop (x := x) (r := a) (by omega), insR_go (x := a) ⟨hb, by omega⟩, insR_go ⟨hb, cb⟩]
      · rw [insR_stop (x := x) (r := a) (by omega), insR_stop (x := x) (r := b) (by omega)]
        by_cases c : cls b < cls a
        · rw [insR_go (x := a) ⟨hb, c⟩, insR_stop (x := x) (r := b) (by omega), insR_stop (x := b) (by omega)]
        · rw [insR_stop (x := a) (by omega), insR_go (x := b) ⟨ha, by omega⟩, insR_stop (x := x) (r := a) (by omega)]

/-- A mark goes past marks of other classes. -/
theorem stk_past (l M : List Int) (r : Int) (hr : 0 < cls r) (hM : ∀ b ∈ M, 0 < cls b ∧ cls b ≠ cls r) : stk (l ++ r :: M) = stk (l ++ M ++ [r]) := by
  induction M generalizing l with
  | nil => simp
  | cons b M ih =>
    have hb := hM b (by simp)
    have h1 : stk (l ++ r :: b :: M) = stk (l ++ [b] ++ r :: M) := by
      have : stk (l ++ [r] ++ [b]) = stk (l ++ [b] ++ [r]) := by
        rw [stk_snoc, stk_snoc, stk_snoc, stk_snoc]
        exact insR_comm hr hb.1 (Ne.symm hb.2) _
      have h2 := stk_append this M
      simpa using h2
    rw [h1, ih (l ++ [b]) (fun c hc => hM c (by simp [hc]))]
    simp

theorem insR_base (T P : List Int) (s r : Int) (hs : cls s = 0) : insR (T ++ s :: P) r = insR (T ++ [s]) r ++ P := by
  induction T with
  | nil =>
    show insR (s :: P) r = insR [s] r ++ P
    rw [insR_stop (by omega), insR_stop (by omega)]; rfl
  | cons x T ih =>
    show insR (x :: (T ++ s :: P)) r = insR (x :: (T ++ [s])) r ++ P
    by_cases c : 0 < cls r ∧ cls r < cls x
    · rw [insR_go c, insR_go c, ih]; rfl
    · rw [insR_stop c, insR_stop c]; simp

theorem insR_form (T : List Int) (s r : Int) (hs : cls s = 0) : ∃ T', insR (T ++ [s]) r = T' ++ [s] := by
  induction T with
  | nil => exact ⟨[r], by show insR [s] r = _; rw [insR_stop (by omega)]; rfl⟩
  | cons x T ih =>
    by_cases c : 0 < cls r ∧ cls r < cls x
    · obtain ⟨T', h⟩ := ih
      exact ⟨x :: T', by show insR (x :: (T ++ [s])) r = _; rw [insR_go c, h]; rfl⟩
    · exact ⟨r :: x :: T, by show insR (x :: (T ++ [s])) r = _; rw [insR_stop c]; rfl⟩

theorem fold_base (u T P : List Int) (s : Int) (hs : cls s = 0) : u.foldl insR (T ++ s :: P) = u.foldl insR (T ++ [s]) ++ P := by
  induction u generalizing T with
  | nil => simp
  | cons r u ih =>
    simp only [List.foldl_cons]
    rw [insR_base T P s r hs]
    obtain ⟨T', h⟩ := insR_form T s r hs
    rw [h, List.append_assoc]
    exact ih T'

/-- What begins with a starter is sorted by itself. -/
theorem stk_front (P u : List Int) (s : Int) (hs : cls s = 0) : stk (P ++ s :: u) = stk (s :: u) ++ stk P := by
  unfold stk
  rw [List.foldl_append]
  simp only [List.foldl_cons]
  have h : ∀ Q : List Int, insR Q s = s :: Q := by
    intro Q
    cases Q with
    | nil => rfl
    | cons x t => exact insR_stop (by omega)
  rw [h, h]
  exact fold_base u [] (List.foldl insR [] P) s hs

theorem mem_insR {x r : Int} {s : List Int} : x ∈ insR s r ↔ x = r ∨ x ∈ s := by
  induction s with
  | nil => simp [insR]
  | cons y t ih =>
    by_cases c : 0 < cls r ∧ cls r < cls y
    · rw [insR_go c]; simp only [List.mem_cons, ih]
      constructor
      · rintro (h | h | h) <;> simp [h]
      · rintro (h | h | h) <;> simp [h]
    · rw [insR_stop c]; simp

theorem mem_fold {x : Int} (l s : List Int) : x ∈ l.foldl insR s ↔ x ∈ l ∨ x ∈ s := by
  induction l generalizing s with
  | nil => simp
  | cons r l ih =>
    simp only [List.foldl_cons, ih, mem_insR, List.mem_cons]
    constructor
    · rintro (h | h | h) <;> simp [h]
    · rintro ((h | h) | h) <;> simp [h]

theorem mem_sortM {x : Int} {l : List Int} : x ∈ sortM l ↔ x ∈ l := by
  rw [sortM_stk, List.mem_reverse]
  have := mem_fold (x := x) l []
  simpa [stk] using this

/-- A sorted list stays. -/
theorem srt_stays (l : List Int) (h : ∀ i, i + 1 < l.length → Adj l i) (k : Nat) (hk : k ≤ l.length) : srt l k = l := by
  induction k with
  | zero => rfl
  | succ k ih =>
    rw [srt, ih (by omega)]
    cases k with
    | zero => rfl
    | succ k =>
      refine bub_stop l k fun c => ?_
      have := h k (by omega) c.1
      omega

theorem sortM_again (l : List Int) : sortM (sortM l) = sortM l :=
  srt_stays _ (fun i hi => sortM_adj l i (by rw [sortM_length] at hi; exact hi)) _ (Nat.le_refl _)

theorem full_leaves (n : Nat) (r : Int) (h : levB n r = true) : ∀ x ∈ full n r, apart x = [x] := by
  induction n generalizing r with
  | zero =>
    intro x hx
    simp [full] at hx
    subst hx
    exact levB_zero h
  | succ n ih =>
    by_cases hl : apart r = [r]
    · rw [full_leaf hl]
      intro x hx
      simp at hx; subst hx; exact hl
    · rw [full_go hl]
      intro x hx
      obtain ⟨y, hy, hx⟩ := List.mem_flatMap.1 hx
      exact ih y (((levB_succ h).resolve_left hl) y hy) x hx

theorem all2_leaf {x : Int} (h : apart x = [x]) : all2 x = [x] := full_leaf h

theorem nD_leaf {zs : List Int} {x : Int} (h : x ∈ nD zs) : apart x = [x] := by
  have h1 : x ∈ apD zs := mem_sortM.1 h
  obtain ⟨y, _, hx⟩ := List.mem_flatMap.1 h1
  exact full_leaves 2 y (lev2 y) x hx

theorem apD_leaves {l : List Int} (h : ∀ x ∈ l, apart x = [x]) : apD l = l := by
  induction l with
  | nil => rfl
  | cons a l ih =>
    show all2 a ++ apD l = a :: l
    rw [all2_leaf (h a (by simp)), ih (fun x hx => h x (by simp [hx]))]; rfl

/-- Taken apart twice is once. -/
theorem nD_nD (zs : List Int) : nD (nD zs) = nD zs := by
  unfold nD
  rw [show apD (sortM (apD zs)) = sortM (apD zs) from apD_leaves (fun x hx => nD_leaf hx)]
  exact sortM_again _

theorem apD_append (l m : List Int) : apD (l ++ m) = apD l ++ apD m := by simp [apD]

theorem cls_big {y : Int} (h : 1000 ≤ y) : cls y = 0 := by
  unfold cls; repeat' split
  all_goals omega

theorem tab_cls : ∀ t ∈ tab, cls (at0 t 0) = 0 ∧ cls (at0 (all2 (at0 t 0)) 0) = 0 := by decide +kernel

/-- What a starter is taken apart into begins with a starter; a mark is a leaf. -/
theorem all2_head (r : Int) : (cls r = 0 → ∃ s u, all2 r = s :: u ∧ cls s = 0) ∧ (0 < cls r → apart r = [r]) := by
  by_cases h1 : r = 8491
  · subst h1
    exact ⟨fun _ => ⟨65, [778], by decide +kernel, by decide⟩, fun h => absurd h (by decide)⟩
  by_cases h2 : 44032 ≤ r ∧ r ≤ 55203
  · have hc : cls r = 0 := cls_big (by omega)
    refine ⟨fun _ => ?_, fun h => by omega⟩
    have hf : all2 r = apart r := syl_full 1 h2.1 h2.2
    rw [hf, syl_apart h2.1 h2.2]
    exact ⟨_, _, rfl, cls_big (by omega)⟩
  · cases hf : tab.find? (fun t => at0 t 0 == r) with
    | none =>
      have ha : apart r = [r] := by unfold apart; rw [if_neg h1, if_neg h2, hf]
      exact ⟨fun h => ⟨r, [], all2_leaf ha, h⟩, fun _ => ha⟩
    | some t =>
      have hm := List.mem_of_find?_eq_some hf
      have hp : at0 t 0 = r := by simpa using List.find?_some hf
      have hc := tab_cls t hm
      rw [hp] at hc
      refine ⟨fun _ => ?_, fun h => by omega⟩
      cases ha : all2 r with
      | nil =>
        have hne : all2 r ≠ [] := by
          intro e
          have h3 : apart r = [at0 t 1, at0 t 2] := by unfold apart; rw [if_neg h1, if_neg h2, hf]
          have h4 : all2 r = (apart r).flatMap (full 1) ∨ all2 r = [r] := by
            by_cases hl : apart r = [r]
            · exact .inr (all2_leaf hl)
            · exact .inl (full_go hl)
          rcases h4 with h4 | h4
          · rw [e, h3] at h4
            have h5 : full 1 (at0 t 1) ≠ [] := by
              intro h6
              unfold full at h6
              split at h6
              · cases h6
              · have h7 := (apart_len (at0 t 1)).1
                cases hq : apart (at0 t 1) with
                | nil => rw [hq] at h7; simp at h7
                | cons z zs => rw [hq] at h6; simp [full] at h6
            simp only [List.flatMap_cons] at h4
            exact h5 (List.append_eq_nil_iff.1 h4.symm).1
          · rw [e] at h4; cases h4
        exact absurd ha hne
      | cons s u =>
        rw [ha] at hc
        exact ⟨s, u, rfl, hc.2⟩

theorem tog_cls {a b x : Int} (h : tog a b = some x) : cls x = 0 := by
  unfold tog at h
  split at h
  · obtain rfl := Option.some.inj h
    exact cls_big (by omega)
  · split at h
    · rename_i c
      obtain rfl := Option.some.inj h
      exact cls_big (by omega)
    · cases hf : tab.find? (fun t => at0 t 1 == a && at0 t 2 == b) with
      | none => rw [hf] at h; cases h
      | some t =>
        rw [hf] at h
        obtain rfl := Option.some.inj h
        exact (tab_cls t (List.mem_of_find?_eq_some hf)).1

/-- What has been put together so far is what has been looked at. -/
def CInv (ds : List Int) (k : Nat) (s : List Int × Nat) : Prop :=
  stk (apD s.1) = stk (ds.take k) ∧ s.2 ≤ s.1.length ∧ (0 < s.2 → cls (at0 s.1 (s.2 - 1)) = 0) ∧ (∀ b ∈ s.1.drop s.2, 0 < cls b) ∧ ∀ x ∈ s.1, goodB x = true

theorem cinv_push {ds : List Int} {k : Nat} {s : List Int × Nat} {r : Int} (h : CInv ds k s) (hk : ds[k]? = some r) (hl : apart r = [r]) (hg : goodB r = true) : CInv ds (k + 1) (push s r) := by
  obtain ⟨h1, h2, h3, h4, h5⟩ := h
  have ht : ds.take (k + 1) = ds.take k ++ [r] := by rw [List.take_add_one, hk]; rfl
  have ha : apD (s.1 ++ [r]) = apD s.1 ++ [r] := by rw [apD_append]; simp [apD, all2_leaf hl]
  have hgood : ∀ x ∈ s.1 ++ [r], goodB x = true := by
    intro x hx
    rcases List.mem_append.1 hx with hx | hx
    · exact h5 x hx
    · simp at hx; subst hx; exact hg
  unfold push
  by_cases c : cls r = 0
  · rw [if_pos c]
    refine ⟨by show stk (apD (s.1 ++ [r])) = _; rw [ha, ht, stk_snoc, stk_snoc, h1], by simp, fun _ => ?_, ?_, hgood⟩
    · show cls (at0 (s.1 ++ [r]) (s.1.length + 1 - 1)) = 0
      rw [Nat.add_sub_cancel, at0_mid]; exact c
    · show ∀ b ∈ (s.1 ++ [r]).drop (s.1.length + 1), _
      rw [List.drop_eq_nil_of_le (by simp)]; simp
  · rw [if_neg c]
    refine ⟨by show stk (apD (s.1 ++ [r])) = _; rw [ha, ht, stk_snoc, stk_snoc, h1], by simp; omega, fun h0 => ?_, ?_, hgood⟩
    · show cls (at0 (s.1 ++ [r]) (s.2 - 1)) = 0
      have h0' : 0 < s.2 := h0
      rw [at0_left _ _ _ (by omega)]; exact h3 h0'
    · show ∀ b ∈ (s.1 ++ [r]).drop s.2, _
      rw [List.drop_append_of_le_length h2]
      intro b hb
      rcases List.mem_append.1 hb with hb | hb
      · exact h4 b hb
      · simp at hb; subst hb; have := (cls_range b).1; omega

theorem split_set (l : List Int) (p : Nat) (x : Int) (h : p < l.length) : l = l.take p ++ at0 l p :: l.drop (p + 1) ∧ l.set p x = l.take p ++ x :: l.drop (p + 1) := by
  have e : at0 l p = l[p] := by simp [at0, h]
  refine ⟨?_, ?_⟩
  · rw [e, List.getElem_cons_drop, List.take_append_drop]
  · exact List.set_eq_take_append_cons_drop (l := l) (i := p) (a := x) |>.trans (by rw [if_pos h])

theorem cinv_merge {ds : List Int} {k : Nat} {s : List Int × Nat} {r x : Int} (h : CInv ds k s) (hk : ds[k]? = some r) (hl : apart r = [r]) (hq : 0 < s.2) (ht : tog (at0 s.1 (s.2 - 1)) r = some x)
    (hM : ∀ b ∈ s.1.drop s.2, cls b < cls r) : CInv ds (k + 1) (s.1.set (s.2 - 1) x, s.2) := by
  obtain ⟨h1, h2, h3, h4, h5⟩ := h
  have htk : ds.take (k + 1) = ds.take k ++ [r] := by rw [List.take_add_one, hk]; rfl
  obtain ⟨e1, e2⟩ := split_set s.1 (s.2 - 1) x (by omega)
  have hp : s.2 - 1 + 1 = s.2 := by omega
  rw [hp] at e1 e2
  have hx := tog_apart ht
  have hy := h3 hq
  generalize at0 s.1 (s.2 - 1) = y at *
  generalize s.1.take (s.2 - 1) = A at *
  have hdrop : (s.1.set (s.2 - 1) x).drop s.2 = s.1.drop s.2 := List.drop_set_of_lt (by omega)
  have hap : apD (s.1.drop s.2) = s.1.drop s.2 := apD_leaves fun b hb => (all2_head b).2 (h4 b hb)
  have hgood : ∀ z ∈ s.1.set (s.2 - 1) x, goodB z = true := by
    intro z hz
    rcases List.mem_or_eq_of_mem_set hz with hz | hz
    · exact h5 z hz
    · subst hz; exact hx.2
  refine ⟨?_, by simp; exact h2, fun _ => ?_, ?_, hgood⟩
  · show stk (apD (s.1.set (s.2 - 1) x)) = _
    obtain ⟨sx, ux, ex, cx⟩ := (all2_head x).1 (tog_cls ht)
    obtain ⟨sy, uy, ey, cy⟩ := (all2_head y).1 hy
    have hr2 : all2 r = [r] := all2_leaf hl
    have hs := stk_of_sort hx.1
    have k1 : stk (apD A ++ all2 x) = stk (apD A ++ (all2 y ++ [r])) := by
      rw [hr2] at hs
      rw [ex, ey] at hs ⊢
      rw [stk_front _ _ _ cx]
      show _ = stk (apD A ++ sy :: (uy ++ [r]))
      rw [stk_front _ _ _ cy]
      exact congrArg (· ++ stk (apD A)) hs
    have k2 := stk_append k1 (s.1.drop s.2)
    have k3 : stk (apD A ++ (all2 y ++ [r]) ++ s.1.drop s.2) = stk (apD A ++ all2 y ++ s.1.drop s.2 ++ [r]) := by
      by_cases hMe : s.1.drop s.2 = []
      · rw [hMe]; simp
      · obtain ⟨b, hb⟩ := List.exists_mem_of_ne_nil _ hMe
        have hrp : 0 < cls r := by have := h4 b hb; have := hM b hb; omega
        have := stk_past (apD A ++ all2 y) (s.1.drop s.2) r hrp (fun b hb => ⟨h4 b hb, by have := hM b hb; omega⟩)
        simpa using this
    rw [e2, apD_append, show apD (x :: s.1.drop s.2) = all2 x ++ s.1.drop s.2 from by show all2 x ++ apD (s.1.drop s.2) = _; rw [hap], ← List.append_assoc, k2, k3, htk, stk_snoc, stk_snoc]
    congr 1
    rw [← h1]
    conv => rhs; rw [e1]
    rw [apD_append, show apD (y :: s.1.drop s.2) = all2 y ++ s.1.drop s.2 from by show all2 y ++ apD (s.1.drop s.2) = _; rw [hap], List.append_assoc]
  · show cls (at0 (s.1.set (s.2 - 1) x) (s.2 - 1)) = 0
    rw [at0_set_eq _ _ _ (by omega)]; exact tog_cls ht
  · show ∀ b ∈ (s.1.set (s.2 - 1) x).drop s.2, _
    rw [hdrop]; exact h4

theorem cinv_all (ds : List Int) (hs : ∀ i, i + 1 < ds.length → Adj ds i) (hl : ∀ x ∈ ds, apart x = [x]) (hg : ∀ x ∈ ds, goodB x = true) (k : Nat) (hk : k ≤ ds.length) : CInv ds k (compS ds k) := by
  induction k with
  | zero => exact ⟨rfl, Nat.le_refl _, fun h => absurd h (by simp [compS]), by simp [compS], by simp [compS]⟩
  | succ k ih =>
    have h0 := ih (by omega)
    obtain ⟨r, hr⟩ : ∃ r, ds[k]? = some r := ⟨_, List.getElem?_eq_getElem (by omega)⟩
    have hm := List.mem_of_getElem? hr
    have hr0 : at0 ds k = r := by simp [at0, hr]
    have hP := cinv_push h0 hr (hl r hm) (hg r hm)
    show CInv ds (k + 1) (stepBy (freeS (compS ds k) (at0 ds k)) (compS ds k) (at0 ds k))
    rw [hr0]
    have hb : k = 0 ∨ Btw (compS ds k) (at0 ds (k - 1)) := (comp_same ds hs k (by omega)).2
    generalize compS ds k = s at *
    unfold stepBy
    split
    · rename_i hf
      split
      · rename_i x hx
        have hf2 := of_decide_eq_true hf
        refine cinv_merge h0 hr (hl r hm) hf2.1 hx fun b hbm => ?_
        rcases hf2.2 with hlen | hlast
        · rw [List.drop_eq_nil_of_le hlen] at hbm; cases hbm
        · by_cases hlen2 : s.1.length ≤ s.2
          · rw [List.drop_eq_nil_of_le hlen2] at hbm; cases hbm
          · obtain ⟨pre, hp⟩ := last_drop s.1 s.2 (by omega)
            rcases hb with rfl | hb
            · have h6 := h0.1
              have hs0 : s.1.drop s.2 = [] := by
                have : s.1 = [] := by
                  cases hq : s.1 with
                  | nil => rfl
                  | cons z zs =>
                    exfalso
                    rw [hq] at h6
                    have h7 : all2 z ≠ [] := fun e => by
                      have h8 := (all2_head z)
                      by_cases hz : cls z = 0
                      · obtain ⟨_, _, e3, _⟩ := h8.1 hz
                        rw [e] at e3; cases e3
                      · have h9 := h8.2 (by have := (cls_range z).1; omega)
                        rw [all2_leaf h9] at e; cases e
                    obtain ⟨y, hy⟩ := List.exists_mem_of_ne_nil _ h7
                    have h10 : y ∈ stk (apD (z :: zs)) := by
                      unfold stk
                      rw [mem_fold]
                      exact .inl (List.mem_append.2 (.inl hy))
                    rw [h6] at h10
                    simp [stk] at h10
                rw [this]; simp
              rw [hs0] at hbm; cases hbm
            · obtain ⟨_, _, _, hpw⟩ := hb
              rw [hp] at hpw hbm
              rw [List.pairwise_append] at hpw
              rcases List.mem_append.1 hbm with hbm | hbm
              · have := hpw.2.2 b hbm _ (List.mem_singleton.2 rfl); omega
              · simp at hbm; subst hbm; exact hlast.2
      · exact hP
    · exact hP

/-- Put together and taken apart is the same. -/
theorem nD_nC {zs : List Int} (hg : ∀ x ∈ zs, goodB x = true) : nD (nC zs) = nD zs ∧ ∀ x ∈ nC zs, goodB x = true := by
  have hs : ∀ i, i + 1 < (nD zs).length → Adj (nD zs) i := fun i hi => sortM_adj (apD zs) i (by rw [nD_len] at hi; exact hi)
  have hgd : ∀ x ∈ nD zs, goodB x = true := fun x hx => apD_good hg x (mem_sortM.1 hx)
  have h := cinv_all (nD zs) hs (fun x hx => nD_leaf hx) hgd (nD zs).length (Nat.le_refl _)
  refine ⟨?_, h.2.2.2.2⟩
  have h1 := h.1
  rw [List.take_length] at h1
  show sortM (apD (compS (nD zs) (nD zs).length).1) = nD zs
  rw [sortM_stk, h1, ← sortM_stk]
  exact sortM_again _

theorem nC_nC {zs : List Int} (hg : ∀ x ∈ zs, goodB x = true) : nC (nC zs) = nC zs := by
  have h := (nD_nC hg).1
  unfold nC at *
  rw [h]
end Go.Proofs.YtanfebccenfffagGreatDoor

namespace Go.Proofs.YtanfebccenfffagGreatDoor
open Go.RowKit

theorem elsOf_some {es : List Ent} {run : List Int} {e : El} (h : entOf es run = some e) : elsOf es run = [e] := by unfold elsOf; rw [h]
theorem elsOf_none {es : List Ent} {run : List Int} (h : entOf es run = none) : elsOf es run = base (at0 run 0) := by unfold elsOf; rw [h]

set_option maxRecDepth 100000 in
set_option maxHeartbeats 4000000 in
theorem elemsOf_any {w : World} {B B' : Nat} {ve v : Value} {es : List Ent} {run : List Int} (hE : Ents w B ve es) (hn : es.length ≤ 1048576) (hr : ∀ e ∈ es, e.runes.length ≤ 1048576) (ht : Tabs3 w) (hI : Ints w B' v run) (h1 : 1 ≤ run.length) (hg : ∀ x ∈ run, goodB x = true) :
    Calls Tryz.prog 102 #[ve, v] w fun e w' => ∃ v', e = .returned v' ∧ Elems w' w.heap.size v' (elsOf es run) ∧ Below w.heap.size w w' := by
  have EN := entryAt_any hE hI.rowAt hn hr
  obtain ⟨x, hx⟩ : ∃ x, run[0]? = some x := ⟨_, List.getElem?_eq_getElem (by omega)⟩
  have hx0 : at0 run 0 = x := by unfold at0; rw [hx]; rfl
  have hgx := hg x (List.mem_of_getElem? hx)
  obtain ⟨q0, q1, q2⟩ := goodB_true hgx
  obtain ⟨gv, cv, rfl, _, hgv, hcv⟩ := ints_form1 hI h1
  have c0 : w.cell? ⟨gv, 0, none⟩ = some (.int .i64 x) := hcv 0 x hx
  have hl8 : (0 : Int) < (run.length : Int) := by omega
  have W := fun (u : World) (hu : Below w.heap.size w u) => weight_any x q0 q1 (by omega) u ((ht.below hu).1)
  obtain ⟨va, vn, vc, rfl⟩ : ∃ a n c, ve = .slice a n c := by
    rcases hE.form with ⟨rfl, _⟩ | ⟨_, _, rfl, _, _, _, _⟩
    · exact ⟨_, _, _, rfl⟩
    · exact ⟨_, _, _, rfl⟩
  clear hE hI hg hgx hcv ht
  cases ho : entOf es run with
  | some e =>
    rw [ho] at EN
    rw [elsOf_some ho]
    unfold elRes elV elOf at EN
    simp only [Option.getD_some, Option.isSome_some] at EN
    clear ho W
    go_enter Tryz.func102, Tryz.ntmps102
    go_wp2_with fail
    refine EN.mono ?_
    rintro x w2 ⟨rfl, b2⟩
    clear EN c0
    go_wp2
    go_ret
    exact ⟨_, rfl, elems_block [e] rfl rfl (heap_alloc2_new w2 _ _) (by have := b2.size; omega) (by unfold maxLen; omega), (b2.alloc b2.size _).alloc (b2.alloc b2.size _).size _⟩
  | none =>
    rw [ho] at EN
    rw [elsOf_none ho, hx0]
    unfold elRes elV elOf at EN
    simp only [Option.getD_none, Option.isSome_none] at EN
    clear ho
    rcases base_cases x with hb | ⟨e, hb⟩ | ⟨e, f, hb⟩
    · rw [hb] at W ⊢
      unfold wtV at W
      have mt : ∀ (k : Nat) (w : World), (method (k + 1) 162 (.agg #[]) "loop.example/g00158/impl.elems").run Tryz.prog w = .ok (146, .agg #[]) w := fun _ _ => by kernel_rfl
      clear hb
      go_enter Tryz.func102, Tryz.ntmps102
      go_wp2_with fail
      refine EN.mono ?_
      rintro x w2 ⟨rfl, b2⟩
      clear EN
      have b3 : Below w.heap.size w (w2.alloc (.cells #[.int .i64 0, .int .i64 0, .int .i64 0, .bool false] 80)) := b2.alloc b2.size _
      have W1 := W _ b3
      have c2 : w2.cell? ⟨gv, 0, none⟩ = some (.int .i64 _) := (b2.cell hgv).trans c0
      have hgv2 : gv < w2.heap.size := Nat.lt_of_lt_of_le hgv b2.size
      clear W c0
      go_wp2_with fail
      refine W1.mono ?_
      rintro x w4 ⟨rfl, b4⟩
      have b5 := b3.trans (b4.mono b3.size)
      clear W1 b4 b3
      go_wp2
      go_ret
      exact ⟨_, rfl, ⟨rfl, .inl ⟨rfl, rfl⟩⟩, b5.alloc b5.size _⟩
    · rw [hb] at W ⊢
      unfold wtV at W
      have mt : ∀ (k : Nat) (w : World), (method (k + 1) 165 (.agg #[.int .i64 e.first, .int .i64 e.second, .int .i64 e.third, .bool e.varies]) "loop.example/g00158/impl.elems").run Tryz.prog w = .ok (147, .agg #[.int .i64 e.first, .int .i64 e.second, .int .i64 e.third, .bool e.varies]) w := fun _ _ => by kernel_rfl
      clear hb
      go_enter Tryz.func102, Tryz.ntmps102
      go_wp2_with fail
      refine EN.mono ?_
      rintro x w2 ⟨rfl, b2⟩
      clear EN
      have b3 : Below w.heap.size w (w2.alloc (.cells #[.int .i64 0, .int .i64 0, .int .i64 0, .bool false] 80)) := b2.alloc b2.size _
      have W1 := W _ b3
      have c2 : w2.cell? ⟨gv, 0, none⟩ = some (.int .i64 _) := (b2.cell hgv).trans c0
      have hgv2 : gv < w2.heap.size := Nat.lt_of_lt_of_le hgv b2.size
      clear W c0
      go_wp2_with fail
      refine W1.mono ?_
      rintro x w4 ⟨rfl, b4⟩
      have b5 := b3.trans (b4.mono b3.size)
      clear W1 b4 b3
      go_wp2
      go_ret
      exact ⟨_, rfl, elems_block [e] rfl rfl (heap_alloc2_new w4 _ _) (by have := b5.size; omega) (by unfold maxLen; omega), (b5.alloc b5.size _).alloc (b5.alloc b5.size _).size _⟩
    · rw [hb] at W ⊢
      unfold wtV at W
      have mt : ∀ (k : Nat) (w : World), (method (k + 1) 168 (.agg #[.int .i64 e.first, .int .i64 e.second, .int .i64 e.third, .bool e.varies, .int .i64 f.first, .int .i64 f.second, .int .i64 f.third, .bool f.varies]) "loop.example/g00158/impl.elems").run Tryz.prog w = .ok (148, .agg #[.int .i64 e.first, .int .i64 e.second, .int .i64 e.third, .bool e.varies, .int .i64 f.first, .int .i64 f.second, .int .i64 f.third, .bool f.varies]) w := fun _ _ => by kernel_rfl
      clear hb
      go_enter Tryz.func102, Tryz.ntmps102
      go_wp2_with fail
      refine EN.mono ?_
      rintro x w2 ⟨rfl, b2⟩
      clear EN
      have b3 : Below w.heap.size w (w2.alloc (.cells #[.int .i64 0, .int .i64 0, .int .i64 0, .bool false] 80)) := b2.alloc b2.size _
      have W1 := W _ b3
      have c2 : w2.cell? ⟨gv, 0, none⟩ = some (.int .i64 _) := (b2.cell hgv).trans c0
      have hgv2 : gv < w2.heap.size := Nat.lt_of_lt_of_le hgv b2.size
      clear W c0
      go_wp2_with fail
      refine W1.mono ?_
      rintro x w4 ⟨rfl, b4⟩
      have b5 := b3.trans (b4.mono b3.size)
      clear W1 b4 b3
      go_wp2
      go_ret
      exact ⟨_, rfl, elems_block [e, f] rfl rfl (heap_alloc2_new w4 _ _) (by have := b5.size; omega) (by unfold maxLen; omega), (b5.alloc b5.size _).alloc (b5.alloc b5.size _).size _⟩
end Go.Proofs.YtanfebccenfffagGreatDoor

namespace Go.Proofs.YtanfebccenfffagGreatDoor

def okE (es : List Ent) (lv : Int) (x : ByteArray) : Bool := ok4 x && rulesOk es lv
def elsA (es : List Ent) (lv : Int) (x : ByteArray) : List El := if okE es lv x = true then elems4 es (rn4 x) else []
/-- The key of a text. -/
def keyT (es : List Ent) (sh : Bool) (lv : Int) (x : ByteArray) : ByteArray := if okE es lv x = true then bytesOf (keyB es sh lv (rn4 x)) else ⟨#[]⟩
/-- The first weights of a text. -/
def firsT (es : List Ent) (sh : Bool) (lv : Int) (x : ByteArray) : List Int := if okE es lv x = true then firstsB es sh (rn4 x) else []

theorem rn4_good (x : ByteArray) : ∀ y ∈ rn4 x, goodB y = true := fun y hy => apD_good (dec_good x.size x) y (mem_sortM.1 hy)
theorem rn4_rng (x : ByteArray) : ∀ y ∈ rn4 x, 0 ≤ y ∧ y ≤ 1114111 := fun y hy => by have := goodB_true (rn4_good x y hy); omega

theorem ok4_parts {x : ByteArray} (h : ok4 x = true) : x.size ≤ 200 ∧ (rn4 x).length ≤ 200 := of_decide_eq_true h

theorem okE_parts {es : List Ent} {lv : Int} {x : ByteArray} (h : okE es lv x = true) : x.size ≤ 200 ∧ (rn4 x).length ≤ 200 ∧ rulesOk es lv = true := by
  unfold okE at h
  rw [Bool.and_eq_true] at h
  exact ⟨(ok4_parts h.1).1, (ok4_parts h.1).2, h.2⟩

theorem rulesOk_parts {es : List Ent} {lv : Int} (h : rulesOk es lv = true) : es.length ≤ 40 ∧ 1 ≤ lv ∧ lv ≤ 4 := ⟨(of_decide_eq_true h).1, (of_decide_eq_true h).2.1.1, (of_decide_eq_true h).2.1.2⟩

theorem firsT_rng (es : List Ent) (sh : Bool) (lv : Int) (x : ByteArray) : ∀ n ∈ firsT es sh lv x, 1 ≤ n ∧ n ≤ 65535 := by
  unfold firsT
  split
  · rename_i h
    exact firstsB_rng (okE_parts h).2.2 (rn4_rng x)
  · intro n hn; cases hn

theorem firsT_len (es : List Ent) (sh : Bool) (lv : Int) (x : ByteArray) : (firsT es sh lv x).length ≤ 400 := by
  unfold firsT
  split
  · rename_i h
    have := firstsB_len es sh (rn4 x)
    have := (okE_parts h).2.1
    omega
  · simp

theorem elsA_len (es : List Ent) (lv : Int) (x : ByteArray) : (elsA es lv x).length ≤ 400 := by
  unfold elsA
  split
  · rename_i h
    have := elems4_len es (rn4 x)
    have := (okE_parts h).2.1
    omega
  · simp

theorem bytesOf_size (bs : List Int) : (bytesOf bs).size = bs.length := by simp [bytesOf, ByteArray.size]

theorem keyB_len (es : List Ent) (sh : Bool) {lv : Int} (h : 1 ≤ lv ∧ lv ≤ 4) (l : List Int) : (keyB es sh lv l).length ≤ 4 * (2 + 4 * l.length) := by
  have h1 := keyN_len (counted sh (elems4 es l)) (fourths sh (elems4 es l)) lv.toNat
  have h2 := counted_len sh (elems4 es l)
  have h3 := elems4_len es l
  unfold keyB
  refine Nat.le_trans h1 (Nat.mul_le_mul (by omega) (by omega))

theorem keyT_size (es : List Ent) (sh : Bool) (lv : Int) (x : ByteArray) : (keyT es sh lv x).size ≤ 4000 := by
  unfold keyT
  split
  · rename_i h
    obtain ⟨_, h1, h2⟩ := okE_parts h
    have := keyB_len es sh (rulesOk_parts h2).2 (rn4 x)
    rw [bytesOf_size]
    omega
  · show (0 : Nat) ≤ 4000; omega
end Go.Proofs.YtanfebccenfffagGreatDoor

namespace Go.Proofs.YtanfebccenfffagGreatDoor
open Go.RowKit

theorem els_low {w : World} {B B' : Nat} {v : Value} {es : List El} (h : Elems w B' v es) (hB : B ≤ B') : Elems w B v es := by
  refine ⟨h.1, ?_⟩
  rcases h.2 with h | ⟨g, cap, cur, h1, h2, h3⟩
  · exact .inl h
  · exact .inr ⟨g, cap, cur, h1, Nat.le_trans hB h2, h3⟩

theorem aR_good (x : ByteArray) : ∀ y ∈ aR x, goodB y = true := by
  unfold aR
  split
  · intro y hy
    exact apD_good (dec_good x.size x) y (mem_sortM.1 hy)
  · intro y hy; cases hy

/-- The rules' block. -/
def BoxR4 (u : World) (b : Nat) (v : Value) (sh : Bool) (lv : Int) : Prop := u.heap[b]? = some (.cells #[v, .bool sh, .int .i64 lv] 32)

theorem BoxR4.below {B b : Nat} {u u' : World} {v : Value} {sh : Bool} {lv : Int} (h : BoxR4 u b v sh lv) (hb : Below B u u') (hlt : b < B) : BoxR4 u' b v sh lv := (hb.block b hlt).trans h

theorem BoxR4.cells {b : Nat} {u : World} {v : Value} {sh : Bool} {lv : Int} (h : BoxR4 u b v sh lv) : u.cell? ⟨b, 0, none⟩ = some v ∧ u.cell? ⟨b, 1, none⟩ = some (.bool sh) ∧ u.cell? ⟨b, 2, none⟩ = some (.int .i64 lv) :=
  ⟨cell_of_row _ _ 0 _ _ _ h, cell_of_row _ _ 1 _ _ _ h, cell_of_row _ _ 2 _ _ _ h⟩

def EiRel (w0 : World) (es : List Ent) (goal : List El) (v6 v8 : Value) (wr : World) : Prop :=
  ∃ (g : Nat) (rest : List Int) (done : List El), w0.heap.size ≤ g ∧ rest.length ≤ 200 ∧ done.length + 2 * rest.length ≤ 400 ∧ (∀ x ∈ rest, goodB x = true) ∧ MidG wr g v6 rest ∧ Elems wr w0.heap.size v8 done ∧ done ++ elems4 es rest = goal ∧ Below w0.heap.size w0 wr

theorem els_apart {u u' : World} {B g : Nat} {v : Value} {es : List El} {cs : Array Value} (h : Elems u B v es) (hg : u.grownBy u' (some g)) (hc : u.heap[g]? = some (.cells cs 3)) : Elems u' B v es := by
  refine World.ownsRow.kept h hg ?_
  rcases h.2 with ⟨rfl, _⟩ | ⟨g', cap, cur, rfl, _, h3, _⟩
  · exact .inl rfl
  · refine .inr fun e => ?_
    have e2 : g' = g := Option.some.inj e
    subst e2
    rw [hc] at h3
    injection h3 with h4
    injection h4 with _ h5
    exact absurd h5 (by decide)

set_option maxRecDepth 100000 in
set_option maxHeartbeats 8000000 in
/-- The elems of runes that lie in memory made behind wb. -/
theorem elemsRn_any {w wb : World} {B : Nat} {ve v : Value} {es : List Ent} {rs : List Int} (hbw : Below wb.heap.size wb w) (hE : Ents wb B ve es) (hne : es.length ≤ 1048576) (hr : ∀ e ∈ es, e.runes.length ≤ 1048576) (ht : Tabs3 wb) (hI : Ints w wb.heap.size v rs) (hlen : rs.length ≤ 200) (hgood : ∀ x ∈ rs, goodB x = true) :
    Calls Tryz.prog 93 #[ve, v] w fun e w' => ∃ v', e = .returned v' ∧ Elems w' wb.heap.size v' (elems4 es rs) ∧ Below wb.heap.size wb w' := by
  obtain ⟨va, vc, rfl⟩ : ∃ a c, ve = .slice a es.length c := by
    rcases hE.form with ⟨rfl, rfl⟩ | ⟨_, _, rfl, _, _, _, _⟩
    · exact ⟨_, _, rfl⟩
    · exact ⟨_, _, rfl⟩
  have HS2 : Hid (EiRel wb es (elems4 es rs) v (.slice none 0 0) w) := by
    rcases hI.midI with h | ⟨g, f, c, cs, h1, h2, h3, h4, h5, h6⟩
    · exact ⟨wb.heap.size, rs, [], Nat.le_refl _, hlen, by simp; omega, hgood, .inl h, ⟨rfl, .inl ⟨rfl, rfl⟩⟩, rfl, hbw⟩
    · exact ⟨g, rs, [], h4, hlen, by simp; omega, hgood, .inr ⟨f, c, cs, h1, h2, h3, h5, h6⟩, ⟨rfl, .inl ⟨rfl, rfl⟩⟩, rfl, hbw⟩
  have HE : Hid (Ents _ _ _ _) := hE
  have HT : Hid (Tabs3 _) := ht
  generalize elems4 es rs = goal at *
  clear hlen hgood hI hbw hE ht
  go_enter Tryz.func93, Tryz.ntmps93
  go_wp2_with fail
  go_loopw [1, 5] (fun v6 v8 wr => EiRel wb es goal v6 v8 wr) (fun v6 _ _ => sliceLen v6)
  case atStart => exact HS2.out
  case round =>
    clear HS2
    obtain ⟨g, rest, done, hg0, hrl, hdl, hgd, hM, hD, hgo, hbr⟩ := hrel
    have hl6 := hM.len
    have HGO : Hid (done ++ elems4 es rest = goal) := hgo
    clear hgo
    by_cases h0 : rest.length = 0
    · have hr0 : rest = [] := List.eq_nil_of_length_eq_zero h0
      subst hr0
      have HF : Hid (done = goal) := by show _ = _; rw [← HGO.out, elems4_nil, List.append_nil]
      obtain ⟨a6, c6, rfl⟩ : ∃ a c, u1 = .slice a 0 c := by
        rcases hM with ⟨a, c, h, _⟩ | ⟨f, c, cs, h, _⟩
        · exact ⟨a, c, h⟩
        · exact ⟨_, _, h⟩
      have HD : Hid (Elems _ _ _ _) := hD
      have HBR : Hid (Below _ _ _) := hbr
      clear hM HGO hD hbr
      go_wp2
      go_ret
      rw [← HF.out]
      exact ⟨_, rfl, HD.out, HBR.out⟩
    · obtain ⟨f, c, cs, h61, h62, h63, h64, h65⟩ : ∃ f c cs, u1 = .slice (some ⟨g, f, none⟩) rest.length c ∧ rest.length ≤ c ∧ c ≤ maxLen ∧ wr.heap[g]? = some (.cells cs 3) ∧ ∀ j x, rest[j]? = some x → wr.cell? ⟨g, f + j, none⟩ = some (.int .i64 x) := by
        rcases hM with ⟨a, c, _, h⟩ | h
        · subst h; exact absurd rfl h0
        · exact h
      subst h61
      have hk := take4_kept (es := es) (l := rest) (by omega)
      have TR := takeRun_row wr wb B g f c cs (.slice va es.length vc) es rest hbr HE.out hne hr HT.out hg0 (by omega) (by omega) h62 h63 h64 h65
      have HGO2 : Hid ((done ++ elsOf es (take4 es rest).1) ++ elems4 es (take4 es rest).2 = goal) := by
        show _ = _
        rw [← HGO.out, elems4_step (es := es) (l := rest) (by omega), List.append_assoc]
      have hel := elsOf_len es (take4 es rest).1
      obtain ⟨k1, k2, k3, k4, k5⟩ := hk
      generalize (take4 es rest).1 = run at *
      generalize (take4 es rest).2 = rest2 at *
      have HG64 : Hid (wr.heap[g]? = some (.cells cs 3)) := h64
      have hgr : ∀ x ∈ run, goodB x = true := fun x hx => hgd x (k4 x hx)
      have hgr2 : ∀ x ∈ rest2, goodB x = true := fun x hx => hgd x (k5 x hx)
      have HGR2 : Hid (∀ x ∈ rest2, goodB x = true) := hgr2
      have HGR : Hid (∀ x ∈ run, goodB x = true) := hgr
      have HD : Hid (Elems _ _ _ _) := hD
      have hszr := hbr.size
      have h08 : (0 : Int) < (rest.length : Int) := by omega
      clear h64 h65 hM HGO hgd hgr hgr2 hD k3 k4 k5 hbr
      go_wp2_with fail
      refine TR.mono ?_
      rintro e w3 ⟨vr, vq, rfl, ir, mq, b3, g3⟩
      clear TR
      have HD3 : Hid (Elems w3 wb.heap.size u5 done) := els_apart HD.out g3 HG64.out
      have EO := elemsOf_any (HE.out.below b3) hne hr (HT.out.below b3) ir k2 HGR.out
      have hsz3 := b3.size
      have HMQ : Hid (MidG _ _ _ _) := mq
      have HB3 : Hid (Below _ _ _) := b3
      clear HD g3 HG64 ir mq b3 HGR
      go_wp2_with fail
      refine EO.mono ?_
      rintro e w4 ⟨v4, rfl, e4, b4⟩
      clear EO
      have b4' : Below wb.heap.size wb w4 := HB3.out.trans (b4.mono HB3.out.size)
      have d4 : Elems w4 wb.heap.size u5 done := HD3.out.below b4
      have m4 : MidG w4 g vq rest2 := HMQ.out.below b4
      have HM4 : Hid (MidG _ _ _ _) := m4
      have HB4 : Hid (Below _ _ _) := b4'
      have hsz4 := b4'.size
      clear HD3 HMQ HB3 b4 b4' m4
      go_wp2_with (at_builtin; refine append_els rfl _ _ rfl wb.heap.size _ u5 v4 done (elsOf es run) rfl rfl d4 e4 (by omega) (by omega) ?_)
      intro v5 w5 e5 g5
      have HM5 : Hid (MidG w5 g vq rest2) := by
        rcases HM4.out with h | ⟨f, c, cs, q1, q2, q3, q4, q5⟩
        · exact .inl h
        · refine MidG.kept (.inr ⟨f, c, cs, q1, q2, q3, q4, q5⟩) g5 fun c => ?_
          rcases d4.2 with ⟨rfl, _⟩ | ⟨g', cap, cur, rfl, _, h3, _⟩
          · cases c
          · have e2 : g = g' := Option.some.inj c
            subst e2
            rw [q4] at h3
            injection h3 with h4
            injection h4 with _ h5
            exact absurd h5 (by decide)
      have HB5 : Hid (Below wb.heap.size wb w5) := Below.grown HB4.out g5 HB4.out.size (fun j hj => (World.ownsRow.lt d4 j hj).1)
      have HE5 : Hid (Elems _ _ _ _) := e5
      clear e5 g5 d4 e4 HM4 HB4
      go_wp2
      refine ⟨⟨g, rest2, done ++ elsOf es run, hg0, by omega, by rw [List.length_append]; omega, HGR2.out, HM5.out, HE5.out, HGO2.out, HB5.out⟩, ?_⟩
      have := HM5.out.len
      show sliceLen _ < sliceLen _
      rw [this]
      show _ < rest.length
      omega

set_option maxRecDepth 100000 in
set_option maxHeartbeats 8000000 in
theorem implElemsIn_any {w : World} {B : Nat} {ve : Value} {es : List Ent} {sh : Bool} {lv : Int} (x : ByteArray) (hx : x.size ≤ 1048576) (hE : Ents w B ve es) (hr : ∀ e ∈ es, e.runes.length ≤ 1048576) (ht : Tabs3 w) :
    Calls Tryz.prog 74 #[.agg #[ve, .bool sh, .int .i64 lv], .string x] w fun e w' => ∃ v', e = .returned (.tuple #[v', .bool (okE es lv x)]) ∧ Elems w' w.heap.size v' (elsA es lv x) ∧ Below w.heap.size w w' := by
  obtain ⟨va, vc, rfl⟩ : ∃ a c, ve = .slice a es.length c := by
    rcases hE.form with ⟨rfl, rfl⟩ | ⟨_, _, rfl, _, _, _, _⟩
    · exact ⟨_, _, rfl⟩
    · exact ⟨_, _, rfl⟩
  have hbx : Below w.heap.size w (w.alloc (.cells #[.slice va es.length vc, .bool sh, .int .i64 lv] 32)) := (Below.refl _ _).alloc (Nat.le_refl _) _
  have hbox : BoxR4 (w.alloc (.cells #[.slice va es.length vc, .bool sh, .int .i64 lv] 32)) w.heap.size (.slice va es.length vc) sh lv := heap_alloc_new w _
  have AT := apartT_any x hx (w.alloc (.cells #[.slice va es.length vc, .bool sh, .int .i64 lv] 32)) (ht.below hbx)
  have hlen := aR_len x
  have hgood := aR_good x
  unfold elsA okE
  have HE : Hid (Ents _ _ _ _) := hE.below hbx
  have HT : Hid (Tabs3 _) := ht.below hbx
  clear hE ht
  cases hok : ok4 x
  · rw [hok] at AT
    rw [Bool.false_and, if_neg (by simp)]
    clear hok
    go_enter Tryz.func74, Tryz.ntmps74
    go_wp2_with fail
    refine AT.mono ?_
    rintro e w1 ⟨v1, rfl, i1, b1⟩
    clear AT
    go_wp2
    go_ret2
    exact ⟨_, rfl, ⟨rfl, .inl ⟨rfl, rfl⟩⟩, hbx.trans (b1.mono hbx.size)⟩
  · have har : aR x = rn4 x := by unfold aR; rw [hok]; rfl
    rw [hok, har] at AT
    rw [har] at hlen hgood
    rw [Bool.true_and]
    clear hok har
    generalize rn4 x = rs at *
    have GR := fun (u : World) (hu : Below (w.alloc (.cells #[.slice va es.length vc, .bool sh, .int .i64 lv] 32)).heap.size (w.alloc (.cells #[.slice va es.length vc, .bool sh, .int .i64 lv] 32)) u) => implGood3_any (sh := sh) (lv := lv) (HE.out.below hu) hr (HT.out.below hu)
    have hlb : w.heap.size < (w.alloc (.cells #[.slice va es.length vc, .bool sh, .int .i64 lv] 32)).heap.size := by simp
    cases hro : rulesOk es lv
    · rw [hro] at GR
      rw [if_neg (by simp)]
      clear hro
      go_enter Tryz.func74, Tryz.ntmps74
      go_wp2_with fail
      refine AT.mono ?_
      rintro e w1 ⟨v1, rfl, i1, b1⟩
      have G1 := GR _ b1
      obtain ⟨c0, c1, c2⟩ := (hbox.below b1 hlb).cells
      have hsz1 := b1.size
      clear AT GR hbox
      go_wp2_with fail
      refine G1.mono ?_
      rintro e w2 ⟨rfl, b2⟩
      clear G1
      have b3 := hbx.trans ((b1.trans (b2.mono b1.size)).mono hbx.size)
      go_wp2
      go_ret2
      exact ⟨_, rfl, ⟨rfl, .inl ⟨rfl, rfl⟩⟩, b3⟩
    · rw [hro] at GR
      rw [if_pos rfl]
      have hne : es.length ≤ 1048576 := by have := (of_decide_eq_true (show decide _ = true from hro)).1; omega
      clear hro
      obtain ⟨wb, HWB⟩ : ∃ wb, Hid (wb = w.alloc (.cells #[.slice va es.length vc, .bool sh, .int .i64 lv] 32)) := ⟨_, rfl⟩
      have hwb := HWB.out
      rw [← hwb] at hbx hbox HE HT hlb AT GR
      clear hwb
      go_enter Tryz.func74, Tryz.ntmps74
      go_wp2_with fail
      rw [← HWB.out]
      refine AT.mono ?_
      rintro e w1 ⟨v1, rfl, i1, b1⟩
      have G1 := GR _ b1
      obtain ⟨c0, c1, c2⟩ := (hbox.below b1 hlb).cells
      have hsz1 := b1.size
      have hsw : w.heap.size < w1.heap.size := by omega
      clear AT GR HWB
      go_wp2_with fail
      refine G1.mono ?_
      rintro e w2 ⟨rfl, b2⟩
      have b12 := b1.trans (b2.mono b1.size)
      have ER := elemsRn_any b12 HE.out hne hr HT.out (i1.below b2) hlen hgood
      clear G1 c0 c1 c2
      obtain ⟨c0, c1, c2⟩ := (hbox.below b12 hlb).cells
      have hsz2 := b12.size
      have hsw2 : w.heap.size < w2.heap.size := by omega
      clear i1 b1 b2 b12
      go_wp2_with fail
      refine ER.mono ?_
      rintro e w3 ⟨v3, rfl, e3, b3⟩
      clear ER c0 c1 c2
      go_wp2
      go_ret2
      exact ⟨_, rfl, els_low e3 hbx.size, hbx.trans (b3.mono hbx.size)⟩
end Go.Proofs.YtanfebccenfffagGreatDoor
