/- Contract of the specification's GoodRules. -/
import Derived.Test.YtinjldagfhbioaaGreatDoorSRule1
namespace Go.Proofs.YtinjldagfhbioaaGreatDoor
open Go.RowKit

/-- Whether an entry is as a good one is, at its place. -/
def entOk (es : List Ent) (i : Nat) (e : Ent) : Bool :=
  runesOk e.runes && (decide (atE es e.runes = (i : Int)) && (decide (1 ≤ e.el.first ∧ e.el.first ≤ 65535) && (decide (32 ≤ e.el.second ∧ e.el.second ≤ 999) && (decide (2 ≤ e.el.third ∧ e.el.third ≤ 99) && !e.el.varies))))

/-- Whether rules are good. -/
def rulesOk (es : List Ent) (lv : Int) : Bool := decide (es.length ≤ 40 ∧ (1 ≤ lv ∧ lv ≤ 4) ∧ (es.zipIdx.all fun p => entOk es p.2 p.1) = true)

theorem entsOk_iff (es : List Ent) : (es.zipIdx.all fun p => entOk es p.2 p.1) = true ↔ ∀ i e, es[i]? = some e → entOk es i e = true := by
  rw [List.all_eq_true]
  exact ⟨fun h i e he => h (e, i) (List.mem_zipIdx_iff_getElem?.2 he), fun h p hp => h p.2 p.1 (List.mem_zipIdx_iff_getElem?.1 hp)⟩

theorem rulesOk_head {es : List Ent} {lv : Int} (h : ¬ (es.length ≤ 40 ∧ 1 ≤ lv ∧ lv ≤ 4)) : rulesOk es lv = false := decide_eq_false fun c => h ⟨c.1, c.2.1⟩
theorem rulesOk_ent {es : List Ent} {lv : Int} {i : Nat} {e : Ent} (he : es[i]? = some e) (h : entOk es i e = false) : rulesOk es lv = false := decide_eq_false fun c => by
  have := (entsOk_iff es).1 c.2.2 i e he
  rw [h] at this; cases this

def EntsTo (es : List Ent) (k : Nat) : Prop := ∀ i e, i < k → es[i]? = some e → entOk es i e = true

theorem EntsTo.succ {es : List Ent} {k : Nat} {e : Ent} (h : EntsTo es k) (he : es[k]? = some e) (ho : entOk es k e = true) : EntsTo es (k + 1) := by
  intro i x hi hx
  by_cases c : i = k
  · subst c; rw [he] at hx; cases hx; exact ho
  · exact h i x (by omega) hx

theorem rulesOk_all {es : List Ent} {lv : Int} {k : Nat} (h : EntsTo es k) (hk : es.length ≤ k) (h1 : es.length ≤ 40) (h2 : 1 ≤ lv ∧ lv ≤ 4) : rulesOk es lv = true := decide_eq_true ⟨h1, h2, (entsOk_iff es).2 fun i e he => h i e (by have := (List.getElem?_eq_some_iff.1 he).1; omega) he⟩

/-- What the round's three blocks hold. -/
def GC (u : World) (b1 b4 b5 : Nat) (v : Value) (sh : Bool) (lv : Int) (x : Value) (e : El) : Prop :=
  (b1 < u.heap.size ∧ b4 < u.heap.size ∧ b5 < u.heap.size) ∧ (u.cell? ⟨b1, 0, none⟩ = some v ∧ u.cell? ⟨b1, 1, none⟩ = some (.bool sh) ∧ u.cell? ⟨b1, 2, none⟩ = some (.int .i64 lv)) ∧
    u.cell? ⟨b4, 0, none⟩ = some x ∧
    (u.cell? ⟨b5, 0, none⟩ = some (.int .i64 e.first) ∧ u.cell? ⟨b5, 1, none⟩ = some (.int .i64 e.second) ∧ u.cell? ⟨b5, 2, none⟩ = some (.int .i64 e.third) ∧ u.cell? ⟨b5, 3, none⟩ = some (.bool e.varies))

theorem GC.below {u u' : World} {b1 b4 b5 : Nat} {v : Value} {sh : Bool} {lv : Int} {x : Value} {e : El} (h : GC u b1 b4 b5 v sh lv x e) (hb : Below u.heap.size u u') : GC u' b1 b4 b5 v sh lv x e := by
  obtain ⟨⟨h1, h4, h5⟩, ⟨a0, a1, a2⟩, c0, d0, d1, d2, d3⟩ := h
  exact ⟨⟨Nat.lt_of_lt_of_le h1 hb.size, Nat.lt_of_lt_of_le h4 hb.size, Nat.lt_of_lt_of_le h5 hb.size⟩, ⟨by rw [hb.cell h1]; exact a0, by rw [hb.cell h1]; exact a1, by rw [hb.cell h1]; exact a2⟩, by rw [hb.cell h4]; exact c0, by rw [hb.cell h5]; exact d0, by rw [hb.cell h5]; exact d1, by rw [hb.cell h5]; exact d2, by rw [hb.cell h5]; exact d3⟩

def Box3 (w wr : World) (v : Value) (sh : Bool) (lv : Int) : Prop := w.heap.size < wr.heap.size ∧ wr.cell? ⟨w.heap.size, 0, none⟩ = some v ∧ wr.cell? ⟨w.heap.size, 1, none⟩ = some (.bool sh) ∧ wr.cell? ⟨w.heap.size, 2, none⟩ = some (.int .i64 lv)

theorem Box3.below {w wr w' : World} {v : Value} {sh : Bool} {lv : Int} (h : Box3 w wr v sh lv) (hb : Below wr.heap.size wr w') : Box3 w w' v sh lv := by
  obtain ⟨h1, a0, a1, a2⟩ := h
  exact ⟨Nat.lt_of_lt_of_le h1 hb.size, by rw [hb.cell h1]; exact a0, by rw [hb.cell h1]; exact a1, by rw [hb.cell h1]; exact a2⟩

theorem gc_new {w wr : World} {v : Value} {sh : Bool} {lv : Int} (h : Box3 w wr v sh lv) (x : Value) (e : El) (ct : TypeId) (dt : TypeId) :
    GC ((wr.alloc (.cells #[x, .int .i64 e.first, .int .i64 e.second, .int .i64 e.third, .bool e.varies] ct)).alloc (.cells #[.int .i64 e.first, .int .i64 e.second, .int .i64 e.third, .bool e.varies] dt)) w.heap.size wr.heap.size (wr.heap.size + 1) v sh lv x e := by
  have hb := ((Below.refl wr.heap.size wr).alloc (Nat.le_refl _) (.cells #[x, .int .i64 e.first, .int .i64 e.second, .int .i64 e.third, .bool e.varies] ct)).alloc (by simp) (.cells #[.int .i64 e.first, .int .i64 e.second, .int .i64 e.third, .bool e.varies] dt)
  obtain ⟨h1, a0, a1, a2⟩ := h.below hb
  have e4 : ((wr.alloc (.cells #[x, .int .i64 e.first, .int .i64 e.second, .int .i64 e.third, .bool e.varies] ct)).alloc (.cells #[.int .i64 e.first, .int .i64 e.second, .int .i64 e.third, .bool e.varies] dt)).heap[wr.heap.size]? = some (.cells #[x, .int .i64 e.first, .int .i64 e.second, .int .i64 e.third, .bool e.varies] ct) := by
    rw [Below.heap_alloc _ _ _ (by simp)]; exact heap_alloc_new wr _
  have e5 := heap_alloc2_new wr (.cells #[x, .int .i64 e.first, .int .i64 e.second, .int .i64 e.third, .bool e.varies] ct) (.cells #[.int .i64 e.first, .int .i64 e.second, .int .i64 e.third, .bool e.varies] dt)
  exact ⟨⟨h1, by simp; omega, by simp⟩, ⟨a0, a1, a2⟩, cell_of_row _ _ 0 _ _ _ e4, cell_of_row _ _ 0 _ _ _ e5, cell_of_row _ _ 1 _ _ _ e5, cell_of_row _ _ 2 _ _ _ e5, cell_of_row _ _ 3 _ _ _ e5⟩

def GRel (w : World) (v : Value) (sh : Bool) (lv : Int) (es : List Ent) (i : Value) (wr : World) : Prop := ∃ k : Nat, k ≤ es.length ∧ i = .int .i64 k ∧ EntsTo es k ∧ Box3 w wr v sh lv ∧ Below w.heap.size w wr

set_option maxRecDepth 100000 in
set_option maxHeartbeats 1000000 in
theorem good3_long (w : World) (a : Option Addr) (n c : Nat) (sh : Bool) (lv : Int) (h : 40 < n) : Calls Tryz.prog 19 #[.agg #[.slice a n c, .bool sh, .int .i64 lv]] w fun e w' => e = .returned (.bool false) ∧ Below w.heap.size w w' := by
  have h2 : (40 : Int) < (n : Int) := by omega
  go_enter Tryz.func19, Tryz.ntmps19
  go_wp2
  go_ret
  exact ⟨rfl, (Below.refl _ _).alloc (Nat.le_refl _) _⟩

set_option maxRecDepth 100000 in
set_option maxHeartbeats 1000000 in
theorem good3_lev (w : World) (a : Option Addr) (n c : Nat) (sh : Bool) (lv : Int) (h : n ≤ 40) (hl : ¬ (1 ≤ lv ∧ lv ≤ 4)) : Calls Tryz.prog 19 #[.agg #[.slice a n c, .bool sh, .int .i64 lv]] w fun e w' => e = .returned (.bool false) ∧ Below w.heap.size w w' := by
  have h2 : ¬ (40 : Int) < (n : Int) := by omega
  have N := fun w => l1In_no lv 1 4 hl w
  go_enter Tryz.func19, Tryz.ntmps19
  go_wp2_with (go_at_call 40; refine (N _).mono ?_; rintro e w1 ⟨rfl, rfl⟩)
  go_ret
  exact ⟨rfl, (Below.refl _ _).alloc (Nat.le_refl _) _⟩

set_option maxRecDepth 100000 in
set_option maxHeartbeats 8000000 in
theorem good3_row (w : World) (B g cap : Nat) (es : List Ent) (sh : Bool) (lv : Int) (hE : Ents w B (.slice (some ⟨g, 0, none⟩) es.length cap) es) (hn : es.length ≤ 40) (hl : 1 ≤ lv ∧ lv ≤ 4) (hr : ∀ e ∈ es, e.runes.length ≤ 1048576) :
    Calls Tryz.prog 19 #[.agg #[.slice (some ⟨g, 0, none⟩) es.length cap, .bool sh, .int .i64 lv]] w fun e w' => e = .returned (.bool (rulesOk es lv)) ∧ Below w.heap.size w w' := by
  have Y := fun w => l1In_yes lv 1 4 hl w
  have hn2 : ¬ (40 : Int) < (es.length : Int) := by omega
  go_enter Tryz.func19, Tryz.ntmps19
  go_wp2_with (go_at_call 40; refine (Y _).mono ?_; rintro e w1 ⟨rfl, rfl⟩)
  go_loopw [19] (fun i wr => GRel w (.slice (some ⟨g, 0, none⟩) es.length cap) sh lv es i wr) (fun i _ => es.length - (intOf i).toNat)
  case atStart => exact ⟨0, Nat.zero_le _, rfl, fun i e hi => by omega, ⟨by simp, by simp [World.cell?_alloc_new], by simp [World.cell?_alloc_new], by simp [World.cell?_alloc_new]⟩, (Below.refl _ _).alloc (Nat.le_refl _) _⟩
  case round =>
    obtain ⟨k, hk, rfl, HN0, hbx, hb⟩ := hrel
    have HN : Hid (EntsTo es k) := HN0
    clear HN0 Y
    by_cases hlt : k < es.length
    · obtain ⟨e, he⟩ : ∃ e, es[k]? = some e := ⟨_, List.getElem?_eq_getElem hlt⟩
      obtain ⟨x, hI, a0, a1, a2, a3, a4⟩ := (hE.below hb).cells k e he
      obtain ⟨xa, xn, xc, rfl⟩ : ∃ xa xn xc, x = .slice xa xn xc := by
        rcases hI.form with ⟨rfl, _⟩ | ⟨_, _, rfl, _, _⟩
        · exact ⟨_, _, _, rfl⟩
        · exact ⟨_, _, _, rfl⟩
      have hk8 : (k : Int) < (es.length : Int) := by omega
      have hrl := hr e (List.mem_of_getElem? he)
      have hg0 := gc_new hbx (.slice xa xn xc) e.el 74 72
      have hba := (hb.alloc hb.size (.cells #[.slice xa xn xc, .int .i64 e.el.first, .int .i64 e.el.second, .int .i64 e.el.third, .bool e.el.varies] 74)).alloc (hb.alloc hb.size _).size (.cells #[.int .i64 e.el.first, .int .i64 e.el.second, .int .i64 e.el.third, .bool e.el.varies] 72)
      have hbr := ((Below.refl wr.heap.size wr).alloc (Nat.le_refl _) (.cells #[.slice xa xn xc, .int .i64 e.el.first, .int .i64 e.el.second, .int .i64 e.el.third, .bool e.el.varies] 74)).alloc (by simp) (.cells #[.int .i64 e.el.first, .int .i64 e.el.second, .int .i64 e.el.third, .bool e.el.varies] 72)
      have hbx2 := hbx.below hbr
      have hI2 := hI.below hbr
      have hE2 := (hE.below hb).below hbr
      have RN := runes3_any hrl hI2
      have HE : Hid _ := he
      have HI2 : Hid (Ints _ _ _ _) := hI2
      have HE2 : Hid (Ents _ _ _ _) := hE2
      have HB : Hid (Below _ _ _) := hba
      have HX : Hid (Box3 _ _ _ _ _) := hbx2
      have HG : Hid (GC _ _ _ _ _ _ _ _ _) := hg0
      clear he hI hI2 hE2 hba hbr hbx2 hg0 hbx hb
      go_wp2_with fail
      refine RN.mono ?_
      rintro e' w2 ⟨rfl, b2⟩
      have c2 : Hid (Below _ _ _) := HB.out.trans (b2.mono HB.out.size)
      have g2 : Hid (GC _ _ _ _ _ _ _ _ _) := HG.out.below b2
      have x2 : Hid (Box3 _ _ _ _ _) := HX.out.below b2
      have i2 : Hid (Ints _ _ _ _) := HI2.out.below b2
      have ee2 : Hid (Ents _ _ _ _) := HE2.out.below b2
      clear RN a0 a1 a2 a3 a4 HB HX HG HI2 HE2 b2
      cases r1 : runesOk e.runes
      · have HF : Hid (rulesOk es lv = false) := rulesOk_ent HE.out (by unfold entOk; rw [r1, Bool.false_and])
        clear HN HE hE hr
        go_wp2
        go_ret
        rw [HF.out]
        exact ⟨rfl, c2.out⟩
      · obtain ⟨_, ⟨p0, p1, p2⟩, q0, d0, d1, d2, d3⟩ := g2.out
        have AT := at3_any (sh := sh) (lv := lv) ee2.out i2.out (by omega) hrl hr
        go_wp2_with fail
        refine AT.mono ?_
        rintro e' w3 ⟨rfl, b3⟩
        have c3 : Hid (Below _ _ _) := c2.out.trans (b3.mono c2.out.size)
        have g3 := g2.out.below b3
        have x3 : Hid (Box3 _ _ _ _ _) := x2.out.below b3
        clear AT p0 p1 p2 q0 d0 d1 d2 d3 c2 g2 x2 i2 ee2 b3
        obtain ⟨_, ⟨p0, p1, p2⟩, q0, d0, d1, d2, d3⟩ := g3
        by_cases r2 : atE es e.runes = (k : Int)
        · have r2' : (atE es e.runes != (k : Int)) = false := by simp [r2]
          by_cases r3 : 1 ≤ e.el.first ∧ e.el.first ≤ 65535
          · have F1 := fun w => l1In_yes e.el.first 1 65535 r3 w
            by_cases r4 : 32 ≤ e.el.second ∧ e.el.second ≤ 999
            · have F2 := fun w => l1In_yes e.el.second 32 999 r4 w
              by_cases r5 : 2 ≤ e.el.third ∧ e.el.third ≤ 99
              · have F3 := fun w => l1In_yes e.el.third 2 99 r5 w
                cases r6 : e.el.varies
                · have HO : Hid (EntsTo es (k + 1)) := HN.out.succ HE.out (by unfold entOk; rw [r1, decide_eq_true r2, decide_eq_true r3, decide_eq_true r4, decide_eq_true r5, r6]; rfl)
                  rw [r6] at d3
                  clear HN HE hE hr r1 r2 r3 r4 r5 r6
                  go_wp2_with fail
                  refine (F1 _).mono ?_
                  rintro e' w4 ⟨rfl, rfl⟩
                  go_wp2_with fail
                  refine (F2 _).mono ?_
                  rintro e' w4 ⟨rfl, rfl⟩
                  go_wp2_with fail
                  refine (F3 _).mono ?_
                  rintro e' w4 ⟨rfl, rfl⟩
                  clear F1 F2 F3
                  go_wp2
                  exact ⟨⟨k + 1, by omega, by go_num, HO.out, x3.out, c3.out⟩, by simp [intOf]; omega⟩
                · have HF : Hid (rulesOk es lv = false) := rulesOk_ent HE.out (by unfold entOk; rw [r6]; simp)
                  rw [r6] at d3
                  clear HN HE hE hr r1 r2 r3 r4 r5 r6
                  go_wp2_with fail
                  refine (F1 _).mono ?_
                  rintro e' w4 ⟨rfl, rfl⟩
                  go_wp2_with fail
                  refine (F2 _).mono ?_
                  rintro e' w4 ⟨rfl, rfl⟩
                  go_wp2_with fail
                  refine (F3 _).mono ?_
                  rintro e' w4 ⟨rfl, rfl⟩
                  clear F1 F2 F3
                  go_wp2
                  go_ret
                  rw [HF.out]
                  exact ⟨rfl, c3.out⟩
              · have F3 := fun w => l1In_no e.el.third 2 99 r5 w
                have HF : Hid (rulesOk es lv = false) := rulesOk_ent HE.out (by unfold entOk; rw [decide_eq_false r5]; simp)
                clear HN HE hE hr r1 r2 r3 r4 r5
                go_wp2_with fail
                refine (F1 _).mono ?_
                rintro e' w4 ⟨rfl, rfl⟩
                go_wp2_with fail
                refine (F2 _).mono ?_
                rintro e' w4 ⟨rfl, rfl⟩
                go_wp2_with fail
                refine (F3 _).mono ?_
                rintro e' w4 ⟨rfl, rfl⟩
                clear F1 F2 F3
                go_wp2
                go_ret
                rw [HF.out]
                exact ⟨rfl, c3.out⟩
            · have F2 := fun w => l1In_no e.el.second 32 999 r4 w
              have HF : Hid (rulesOk es lv = false) := rulesOk_ent HE.out (by unfold entOk; rw [decide_eq_false r4]; simp)
              clear HN HE hE hr r1 r2 r3 r4
              go_wp2_with fail
              refine (F1 _).mono ?_
              rintro e' w4 ⟨rfl, rfl⟩
              go_wp2_with fail
              refine (F2 _).mono ?_
              rintro e' w4 ⟨rfl, rfl⟩
              clear F1 F2
              go_wp2
              go_ret
              rw [HF.out]
              exact ⟨rfl, c3.out⟩
          · have F1 := fun w => l1In_no e.el.first 1 65535 r3 w
            have HF : Hid (rulesOk es lv = false) := rulesOk_ent HE.out (by unfold entOk; rw [decide_eq_false r3]; simp)
            clear HN HE hE hr r1 r2 r3
            go_wp2_with fail
            refine (F1 _).mono ?_
            rintro e' w4 ⟨rfl, rfl⟩
            clear F1
            go_wp2
            go_ret
            rw [HF.out]
            exact ⟨rfl, c3.out⟩
        · have r2' : (atE es e.runes != (k : Int)) = true := by simpa using r2
          have HF : Hid (rulesOk es lv = false) := rulesOk_ent HE.out (by unfold entOk; rw [decide_eq_false r2]; simp)
          clear HN HE hE hr r1 r2
          go_wp2
          go_ret
          rw [HF.out]
          exact ⟨rfl, c3.out⟩
    · have HA : Hid (rulesOk es lv = true) := rulesOk_all HN.out (by omega) hn hl
      clear HN hE hr
      go_wp2
      go_ret
      rw [HA.out]
      exact ⟨rfl, hb⟩

set_option maxRecDepth 100000 in
set_option maxHeartbeats 1000000 in
theorem good3_nil (w : World) (sh : Bool) (lv : Int) (hl : 1 ≤ lv ∧ lv ≤ 4) : Calls Tryz.prog 19 #[.agg #[.slice none 0 0, .bool sh, .int .i64 lv]] w fun e w' => e = .returned (.bool true) ∧ Below w.heap.size w w' := by
  have Y := fun w => l1In_yes lv 1 4 hl w
  go_enter Tryz.func19, Tryz.ntmps19
  go_wp2_with (go_at_call 40; refine (Y _).mono ?_; rintro e w1 ⟨rfl, rfl⟩)
  go_loop [19] (fun i => i = .int .i64 0) (fun _ => 0)
  case atStart => rfl
  case round =>
    subst hrel
    go_wp2
    go_ret
    exact ⟨rfl, (Below.refl _ _).alloc (Nat.le_refl _) _⟩

theorem good3_any {w : World} {B : Nat} {v : Value} {es : List Ent} {sh : Bool} {lv : Int} (hE : Ents w B v es) (hr : ∀ e ∈ es, e.runes.length ≤ 1048576) :
    Calls Tryz.prog 19 #[.agg #[v, .bool sh, .int .i64 lv]] w fun e w' => e = .returned (.bool (rulesOk es lv)) ∧ Below w.heap.size w w' := by
  obtain ⟨a, c, rfl⟩ : ∃ a c, v = .slice a es.length c := by
    rcases hE.form with ⟨rfl, rfl⟩ | ⟨g, cap, rfl, _, _, _, _⟩
    · exact ⟨_, _, rfl⟩
    · exact ⟨_, _, rfl⟩
  by_cases h1 : es.length ≤ 40
  · by_cases h2 : 1 ≤ lv ∧ lv ≤ 4
    · rcases hE.form with ⟨h, rfl⟩ | ⟨g, cap, h, _, _, _, _⟩
      · rw [h]
        have e0 : rulesOk [] lv = true := decide_eq_true ⟨by simp, h2, rfl⟩
        rw [e0]
        exact good3_nil w sh lv h2
      · rw [h] at hE ⊢
        exact good3_row w B g cap es sh lv hE h1 h2 hr
    · rw [rulesOk_head (fun h => h2 h.2)]
      exact good3_lev w a es.length c sh lv h1 h2
  · rw [rulesOk_head (fun h => h1 h.1)]
    exact good3_long w a es.length c sh lv (by omega)
end Go.Proofs.YtinjldagfhbioaaGreatDoor
