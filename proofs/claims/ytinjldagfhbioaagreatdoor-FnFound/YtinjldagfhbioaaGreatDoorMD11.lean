/- Texts of mine laid together: SKey0, SFirsts4, SFind1, SCut5, SFind, SpanM. -/
import Derived.Test.YtinjldagfhbioaaGreatDoorMD10
import Derived.Test.YtinjldagfhbioaaGreatDoorMD1
import Derived.Deep.RegionHeld
import Derived.Test.YtinjldagfhbioaaGreatDoorSame2
import Derived.Test.YtinjldagfhbioaaGreatDoorPCut
import Derived.Test.YtinjldagfhbioaaGreatDoorSD
import Derived.Test.YtinjldagfhbioaaGreatDoorApart2
import Derived.Test.YtinjldagfhbioaaGreatDoorDecode
import Derived.Deep.AppendLies
namespace Go.Proofs.YtinjldagfhbioaaGreatDoor
open Go.RowKit

theorem ents_slice {w : World} {B : Nat} {v : Value} {es : List Ent} (h : Ents w B v es) : ∃ a c, v = .slice a es.length c := by
  rcases h.form with ⟨rfl, rfl⟩ | ⟨_, _, rfl, _, _, _, _⟩
  · exact ⟨_, _, rfl⟩
  · exact ⟨_, _, rfl⟩

/-- The rules' block, of a call's own. -/
def BoxS (u : World) (b : Nat) (v : Value) (sh : Bool) (lv : Int) : Prop := u.heap[b]? = some (.cells #[v, .bool sh, .int .i64 lv] 25)
theorem BoxS.below {B b : Nat} {u u' : World} {v : Value} {sh : Bool} {lv : Int} (h : BoxS u b v sh lv) (hb : Below B u u') (hlt : b < B) : BoxS u' b v sh lv := (hb.block b hlt).trans h
theorem BoxS.cells {b : Nat} {u : World} {v : Value} {sh : Bool} {lv : Int} (h : BoxS u b v sh lv) : u.cell? ⟨b, 0, none⟩ = some v ∧ u.cell? ⟨b, 1, none⟩ = some (.bool sh) ∧ u.cell? ⟨b, 2, none⟩ = some (.int .i64 lv) :=
  ⟨cell_of_row _ _ 0 _ _ _ h, cell_of_row _ _ 1 _ _ _ h, cell_of_row _ _ 2 _ _ _ h⟩

/-- The rules' block and what has grown. -/
def BoxW (w0 : World) (b : Nat) (v : Value) (sh : Bool) (lv : Int) (u : World) : Prop := u.cell? ⟨b, 0, none⟩ = some v ∧ u.cell? ⟨b, 1, none⟩ = some (.bool sh) ∧ u.cell? ⟨b, 2, none⟩ = some (.int .i64 lv) ∧ b < w0.heap.size ∧ Below w0.heap.size w0 u

theorem BoxW.keep {w0 u u' : World} {b : Nat} {v : Value} {sh : Bool} {lv : Int} (hb : Below u.heap.size u u')
    (h : u.cell? ⟨b, 0, none⟩ = some v ∧ u.cell? ⟨b, 1, none⟩ = some (.bool sh) ∧ u.cell? ⟨b, 2, none⟩ = some (.int .i64 lv) ∧ b < w0.heap.size ∧ Below w0.heap.size w0 u) :
    u'.cell? ⟨b, 0, none⟩ = some v ∧ u'.cell? ⟨b, 1, none⟩ = some (.bool sh) ∧ u'.cell? ⟨b, 2, none⟩ = some (.int .i64 lv) ∧ b < w0.heap.size ∧ Below w0.heap.size w0 u' := by
  obtain ⟨h0, h1, h2, h3, h4⟩ := h
  have hlt : b < u.heap.size := Nat.lt_of_lt_of_le h3 h4.size
  exact ⟨(hb.cell hlt).trans h0, (hb.cell hlt).trans h1, (hb.cell hlt).trans h2, h3, h4.trans (hb.mono h4.size)⟩

theorem els_sliceS {w : World} {B : Nat} {v : Value} {es : List El} (h : Elems w B v es) :
    ∃ a c, v = .slice a es.length c ∧ ∀ k e, es[k]? = some e → ∃ g, a = some ⟨g, 0, none⟩ ∧ g < w.heap.size ∧ w.cell? ⟨g, k * 4, none⟩ = some (.int .i64 e.first) ∧ w.cell? ⟨g, k * 4 + 1, none⟩ = some (.int .i64 e.second) ∧ w.cell? ⟨g, k * 4 + 2, none⟩ = some (.int .i64 e.third) ∧ w.cell? ⟨g, k * 4 + 3, none⟩ = some (.bool e.varies) := by
  rcases h.form with ⟨rfl, rfl⟩ | ⟨g, cap, rfl, _, _⟩
  · exact ⟨_, _, rfl, fun k e he => by simp at he⟩
  · exact ⟨_, _, rfl, fun k e he => ⟨g, rfl, (World.ownsRow.lt h g rfl).2, h.cells k e he⟩⟩

theorem ints_sliceS {w : World} {B : Nat} {v : Value} {l : List Int} (h : Ints w B v l) :
    ∃ a c, v = .slice a l.length c ∧ ∀ k, k < l.length → ∃ g, a = some ⟨g, 0, none⟩ ∧ g < w.heap.size ∧ w.cell? ⟨g, k, none⟩ = some (.int .i64 (at0 l k)) := by
  rcases h.form with ⟨rfl, rfl⟩ | ⟨g, cap, rfl, _, _⟩
  · exact ⟨_, _, rfl, fun k hk => by simp at hk⟩
  · exact ⟨_, _, rfl, fun k hk => ⟨g, rfl, (World.ownsRow.lt h g rfl).2, h.cell k hk⟩⟩

theorem elAt_at {xs : List El} {k : Nat} {e : El} (h : xs[k]? = some e) : elAt xs k = e := by unfold elAt; rw [h]; rfl

end Go.Proofs.YtinjldagfhbioaaGreatDoor

namespace Go.Proofs.YtinjldagfhbioaaGreatDoor
open Go.RowKit

def FiRel (W : World) (xs : List El) (fs : List Int) (v7 i : Value) (wr : World) : Prop :=
  ∃ k : Nat, k ≤ xs.length ∧ i = .int .i64 k ∧ Ints wr W.heap.size v7 (wtsK 1 xs fs k) ∧ Below W.heap.size W wr

set_option maxRecDepth 100000 in
set_option maxHeartbeats 4000000 in
theorem firsts4_any {w : World} {B B' : Nat} {v vl : Value} {es : List Ent} {sh : Bool} {lv : Int} {l : List Int} (hE : Ents w B v es) (hn : es.length ≤ 1048576) (hr : ∀ e ∈ es, e.runes.length ≤ 1048576)
    (hL : Ints w B' vl l) (hl : l.length ≤ 200) (hg : ∀ x ∈ l, 0 ≤ x ∧ x ≤ 1114111) :
    Calls Tryz.prog 45 #[.agg #[v, .bool sh, .int .i64 lv], vl] w fun e w' => ∃ v', e = .returned v' ∧ Ints w' w.heap.size v' (firstsB es sh l) ∧ Below w.heap.size w w' := by
  obtain ⟨va, vc, rfl⟩ := ents_slice hE
  obtain ⟨al, cl, rfl⟩ := lenS_form hL
  obtain ⟨i0, hi0, hz0, hs0, hy0⟩ := info_parts info_int
  have hbx : Below w.heap.size w (w.alloc (.cells #[.slice va es.length vc, .bool sh, .int .i64 lv] 25)) := (Below.refl _ _).alloc (Nat.le_refl _) _
  have hbox : BoxS (w.alloc (.cells #[.slice va es.length vc, .bool sh, .int .i64 lv] 25)) w.heap.size (.slice va es.length vc) sh lv := heap_alloc_new w _
  have hlb : w.heap.size < (w.alloc (.cells #[.slice va es.length vc, .bool sh, .int .i64 lv] 25)).heap.size := by simp
  have EL := fun (u : World) (hu : Below (w.alloc (.cells #[.slice va es.length vc, .bool sh, .int .i64 lv] 25)).heap.size (w.alloc (.cells #[.slice va es.length vc, .bool sh, .int .i64 lv] 25)) u) => elems4S_any (sh := sh) (lv := lv) ((hE.below hbx).below hu) hn hr ((hL.below hbx).below hu) (by omega) hg
  have hlen := elems4_len es l
  unfold firstsB
  generalize elems4 es l = el at *
  have hel : el.length ≤ 400 := by omega
  have FO := fun (u : World) (B : Nat) (v : Value) (h : Elems u B v el) => fourth_any sh (by omega) h
  have hcl := counted_len sh el
  generalize counted sh el = xs at *
  generalize fourths sh el = fs at *
  have hxl : xs.length ≤ 400 := by omega
  clear hE hL hr hg hlen hcl
  obtain ⟨W0, HW0⟩ : ∃ W0, Hid (W0 = w.alloc (.cells #[.slice va es.length vc, .bool sh, .int .i64 lv] 25)) := ⟨_, rfl⟩
  rw [← HW0.out] at hbx hbox hlb EL
  obtain ⟨c0, c1, c2⟩ := hbox.cells
  have hS : W0.cell? ⟨w.heap.size, 0, none⟩ = some (.slice va es.length vc) ∧ W0.cell? ⟨w.heap.size, 1, none⟩ = some (.bool sh) ∧ W0.cell? ⟨w.heap.size, 2, none⟩ = some (.int .i64 lv) ∧ w.heap.size < W0.heap.size ∧ Below W0.heap.size W0 W0 := ⟨c0, c1, c2, hlb, Below.refl _ _⟩
  have hS2 := BoxW.keep ((Below.refl W0.heap.size W0).drew) hS
  have EL2 := fun (u : World) (hu : u.cell? ⟨w.heap.size, 0, none⟩ = some (.slice va es.length vc) ∧ u.cell? ⟨w.heap.size, 1, none⟩ = some (.bool sh) ∧ u.cell? ⟨w.heap.size, 2, none⟩ = some (.int .i64 lv) ∧ w.heap.size < W0.heap.size ∧ Below W0.heap.size W0 u) => EL u hu.2.2.2.2
  clear EL hbox
  go_enter Tryz.func45, Tryz.ntmps45
  go_wp2_with fail
  rw [← HW0.out]
  clear HW0
  go_region_held (fun u => u.cell? ⟨w.heap.size, 0, none⟩ = some (.slice va es.length vc) ∧ u.cell? ⟨w.heap.size, 1, none⟩ = some (.bool sh) ∧ u.cell? ⟨w.heap.size, 2, none⟩ = some (.int .i64 lv) ∧ w.heap.size < W0.heap.size ∧ Below W0.heap.size W0 u)
    (first | exact hS2 | exact BoxW.keep (by assumption) (by assumption))
    (first | (go_at_call 66; refine (EL2 _ (by assumption)).mono ?_; rintro e w' ⟨vE, rfl, hEl, hbw⟩; obtain ⟨aE, cE, rfl⟩ := (show ∃ a c, vE = .slice a el.length c by obtain ⟨h, _⟩ | ⟨g, cap, h, _⟩ := hEl.form <;> (first | exact ⟨_, _, h⟩ | (rename_i h2; subst h2; exact ⟨_, _, h⟩)))) | (go_at_call 65; refine (FO _ _ _ (by assumption)).mono ?_; rintro e w' ⟨v5, v6, rfl, hI5, hE6, hbw⟩))
  all_goals
    obtain ⟨_, _, _, _, hbW⟩ := (show w'.cell? ⟨w.heap.size, 0, none⟩ = _ ∧ _ ∧ _ ∧ _ ∧ Below W0.heap.size W0 w' by assumption)
    have HBW : Hid (Below w.heap.size w w') := hbx.trans (hbW.mono hbx.size)
    obtain ⟨fa, fc, rfl, _⟩ := ints_sliceS hI5
    obtain ⟨xa, xc, rfl, hcE⟩ := els_sliceS hE6
    have HCE : Hid _ := hcE
    obtain ⟨W, HWW⟩ : ∃ W, Hid (W = w') := ⟨_, rfl⟩
    have hWW := HWW.out
    subst hWW
    clear hcE hI5 hE6 hbW hS hS2 EL2 FO c0 c1 c2 hbx hlb HWW
    try clear hEl
    try clear hbw
    go_wp2_with fail
    go_loopw [7, 21] (fun v7 i wr => FiRel W xs fs v7 i wr) (fun _ i _ => xs.length - (intOf i).toNat)
    case atStart => exact ⟨0, by omega, rfl, World.ownsRow_nil _ _ _ _, Below.refl _ _⟩
    case round =>
      obtain ⟨k, hk, rfl, hK, hbw⟩ := hrel
      have hwl := wtsK_len 1 xs fs k
      by_cases hlk : k < xs.length
      · obtain ⟨e, he⟩ : ∃ e, xs[k]? = some e := ⟨_, List.getElem?_eq_getElem hlk⟩
        obtain ⟨ge, rfl, hgl, y0, y1, y2, y3⟩ := HCE.out k e he
        have hk8 : (k : Int) < (xs.length : Int) := by omega
        have a0 : wr.cell? ⟨ge, k * 4, none⟩ = some (.int .i64 e.first) := (hbw.cell (p := ⟨ge, k * 4, none⟩) hgl).trans y0
        have a1 : wr.cell? ⟨ge, k * 4 + 1, none⟩ = some (.int .i64 e.second) := (hbw.cell (p := ⟨ge, k * 4 + 1, none⟩) hgl).trans y1
        have a2 : wr.cell? ⟨ge, k * 4 + 2, none⟩ = some (.int .i64 e.third) := (hbw.cell (p := ⟨ge, k * 4 + 2, none⟩) hgl).trans y2
        have a3 : wr.cell? ⟨ge, k * 4 + 3, none⟩ = some (.bool e.varies) := (hbw.cell (p := ⟨ge, k * 4 + 3, none⟩) hgl).trans y3
        have HX : Hid (wtL 1 (elAt xs k) (at0 fs k) = e.first) := by show _ = _; rw [elAt_at he]; rfl
        have hsz3 := hbw.size
        have hba := hbw.alloc hbw.size (.cells #[.int .i64 e.first, .int .i64 e.second, .int .i64 e.third, .bool e.varies] 72)
        clear y0 y1 y2 y3 he hgl
        by_cases hX0 : e.first = 0
        · have HT : Hid (wtsK 1 xs fs (k + 1) = wtsK 1 xs fs k) := by show _ = _; rw [wtsK, ifNot_zero (HX.out.trans hX0), List.append_nil]
          have HK4 : Hid (Ints _ _ _ _) := World.ownsRow.alloc hK (.cells #[.int .i64 e.first, .int .i64 e.second, .int .i64 e.third, .bool e.varies] 72)
          have HBA : Hid (Below _ _ _) := hba
          clear hK HX hba hbw
          obtain ⟨x0, x1, x2, x3⟩ := e
          simp only at a0 a1 a2 a3 hX0 HK4 HBA
          subst hX0
          go_wp2
          exact ⟨⟨k + 1, by omega, by go_num, by rw [HT.out]; exact HK4.out, HBA.out⟩, by simp [intOf]; omega⟩
        · have hX0' : (e.first == 0) = false := by simpa using hX0
          have HT : Hid (wtsK 1 xs fs (k + 1) = wtsK 1 xs fs k ++ [e.first]) := by
            show _ = _
            rw [wtsK, HX.out, ifNot_some hX0]
          have hK2 := World.ownsRow.alloc hK (.cells #[.int .i64 e.first, .int .i64 e.second, .int .i64 e.third, .bool e.varies] 72)
          clear hK HX
          go_wp2_with (at_builtin; refine wpList_append_own _ rfl _ _ 35 rfl W.heap.size 3 i0 (.int .i64 0) 1 8 Tryz.underlying35 hi0 hz0 hs0 hy0 rfl (by decide) _ _ _ rfl (hK2.alloc _) ⟨wr.heap.size + 1, 0, none⟩ 1 1 [.int .i64 e.first] rfl rfl (cells1_at _ _ _ _ (by simp)) (fun u hu => by simp at hu; subst hu; rfl) (by unfold maxLen; omega) (by omega) (by simp; omega) ?_)
          intro v6 w4 ho4 hg4 _
          have hI4 : Ints w4 W.heap.size v6 (wtsK 1 xs fs k ++ [e.first]) := Ints.snoc ho4
          have hb4 : Below W.heap.size W w4 := Below.grown (hba.alloc hba.size _) hg4 (hba.alloc hba.size _).size (fun j hj => (World.ownsRow.lt hK2 j hj).1)
          have HI4 : Hid (Ints _ _ _ _) := hI4
          clear ho4 hg4 hK2 hI4 hba hbw
          go_wp2
          exact ⟨⟨k + 1, by omega, by go_num, by rw [HT.out]; exact HI4.out, hb4⟩, by simp [intOf]; omega⟩
      · have hk3 : k = xs.length := by omega
        subst hk3
        have HR : Hid (Ints _ _ _ _) := hK
        clear hK
        go_wp2
        go_ret
        exact ⟨_, rfl, ints_low2 HR.out HBW.out.size, HBW.out.trans (hbw.mono HBW.out.size)⟩
end Go.Proofs.YtinjldagfhbioaaGreatDoor

namespace Go.Proofs.YtinjldagfhbioaaGreatDoor
open Go.RowKit

set_option maxRecDepth 100000 in
set_option maxHeartbeats 2000000 in
theorem firsts5_any {w : World} {B : Nat} {ve : Value} {es : List Ent} {sh : Bool} {lv : Int} (x : ByteArray) (hok : ok4 x = true) (hE : Ents w B ve es) (hn : es.length ≤ 1048576) (hr : ∀ e ∈ es, e.runes.length ≤ 1048576) :
    Calls Tryz.prog 21 #[.agg #[ve, .bool sh, .int .i64 lv], .string x] w fun e w' => ∃ v', e = .returned v' ∧ Ints w' w.heap.size v' (firstsB es sh (rn4 x)) ∧ Below w.heap.size w w' := by
  obtain ⟨va, vc, rfl⟩ := ents_slice hE
  obtain ⟨hs, hl⟩ := ok4_parts hok
  have hbx : Below w.heap.size w (w.alloc (.cells #[.slice va es.length vc, .bool sh, .int .i64 lv] 25)) := (Below.refl _ _).alloc (Nat.le_refl _) _
  have hbox : BoxS (w.alloc (.cells #[.slice va es.length vc, .bool sh, .int .i64 lv] 25)) w.heap.size (.slice va es.length vc) sh lv := heap_alloc_new w _
  have hlb : w.heap.size < (w.alloc (.cells #[.slice va es.length vc, .bool sh, .int .i64 lv] 25)).heap.size := by simp
  have AT := runes4_any x (w.alloc (.cells #[.slice va es.length vc, .bool sh, .int .i64 lv] 25)) (by omega)
  have HE : Hid (Ents _ _ _ _) := hE.below hbx
  have HR : Hid (∀ e ∈ es, e.runes.length ≤ 1048576) := hr
  have HRG : Hid (∀ y ∈ rn4 x, 0 ≤ y ∧ y ≤ 1114111) := rn4_rng x
  rw [hok] at AT
  clear hE hr hok
  go_enter Tryz.func21, Tryz.ntmps21
  go_wp2_with fail
  refine AT.mono ?_
  rintro e w1 ⟨v1, rfl, i1, b1⟩
  have F := firsts4_any (sh := sh) (lv := lv) (HE.out.below b1) hn HR.out (i1 (by omega)) hl HRG.out
  obtain ⟨c0, c1, c2⟩ := (hbox.below b1 hlb).cells
  have HB1 : Hid (Below w.heap.size w w1) := hbx.trans (b1.mono hbx.size)
  clear AT i1 b1 HRG
  go_wp2_with fail
  refine F.mono ?_
  rintro e w2 ⟨v2, rfl, i2, b2⟩
  clear F c0 c1 c2
  go_wp2
  go_ret
  exact ⟨_, rfl, ints_low2 i2 HB1.out.size, HB1.out.trans (b2.mono HB1.out.size)⟩

/-- Whether a stretch matches. -/
def mtB (es : List Ent) (sh : Bool) (want : List Int) (x : ByteArray) : Bool := decide (0 < want.length) && decide (firstsB es sh (rn4 x) = want)

set_option maxRecDepth 100000 in
set_option maxHeartbeats 2000000 in
theorem match5_any {w : World} {B B' : Nat} {ve vw : Value} {es : List Ent} {sh : Bool} {lv : Int} {want : List Int} (x : ByteArray) (hok : ok4 x = true) (hE : Ents w B ve es) (hn : es.length ≤ 1048576) (hr : ∀ e ∈ es, e.runes.length ≤ 1048576) (hW : Ints w B' vw want) (hwl : want.length ≤ 1048576) :
    Calls Tryz.prog 22 #[.agg #[ve, .bool sh, .int .i64 lv], .string x, vw] w fun e w' => e = .returned (.bool (mtB es sh want x)) ∧ Below w.heap.size w w' := by
  obtain ⟨va, vc, rfl⟩ := ents_slice hE
  obtain ⟨hs, hl⟩ := ok4_parts hok
  have hbx : Below w.heap.size w (w.alloc (.cells #[.slice va es.length vc, .bool sh, .int .i64 lv] 25)) := (Below.refl _ _).alloc (Nat.le_refl _) _
  have F := firsts5_any (sh := sh) (lv := lv) x hok (hE.below hbx) hn hr
  have hfl := firstsB_len es sh (rn4 x)
  have HW : Hid (Ints _ _ _ want) := hW.below hbx
  have HV : Hid (mtB es sh want x = (decide (0 < want.length) && decide (firstsB es sh (rn4 x) = want))) := rfl
  rw [HV.out]
  obtain ⟨wa, wc, rfl⟩ := lenS_form hW
  generalize firstsB es sh (rn4 x) = fs at *
  clear hE hr hok hW HV
  by_cases h0 : 0 < want.length
  · have h08 : (0 : Int) < (want.length : Int) := by omega
    have h09 : decide ((0 : Int) < (want.length : Int)) = true := decide_eq_true h08
    rw [decide_eq_true h0, Bool.true_and]
    go_enter Tryz.func22, Tryz.ntmps22
    go_wp2_with fail
    refine F.mono ?_
    rintro e w1 ⟨v1, rfl, i1, b1⟩
    have SM := same2_any (by omega) hwl i1 (HW.out.below b1)
    have HB1 : Hid (Below w.heap.size w w1) := hbx.trans (b1.mono hbx.size)
    clear F HW b1 i1
    go_wp2_with fail
    refine SM.mono ?_
    rintro e w2 ⟨rfl, n2, hw2⟩
    have HB2 : Hid (Below w.heap.size w w2) := by show Below _ _ _; rw [hw2]; exact below_drewN HB1.out n2
    clear SM hw2 HB1
    go_wp2
    go_ret
    exact ⟨rfl, HB2.out⟩
  · have h08 : ¬ (0 : Int) < (want.length : Int) := by omega
    have h09 : decide ((0 : Int) < (want.length : Int)) = false := decide_eq_false h08
    rw [decide_eq_false h0, Bool.false_and]
    clear F HW
    go_enter Tryz.func22, Tryz.ntmps22
    go_wp2
    go_ret
    exact ⟨rfl, hbx⟩
end Go.Proofs.YtinjldagfhbioaaGreatDoor

namespace Go.Proofs.YtinjldagfhbioaaGreatDoor
open Go.RowKit

theorem l1In_any (r lo hi : Int) (w : World) : Calls Tryz.prog 40 #[.int .i64 r, .int .i64 lo, .int .i64 hi] w fun e w' => e = .returned (.bool (decide (lo ≤ r ∧ r ≤ hi))) ∧ w' = w := by
  by_cases h : lo ≤ r ∧ r ≤ hi
  · rw [decide_eq_true h]; exact l1In_yes r lo hi h w
  · rw [decide_eq_false h]; exact l1In_no r lo hi h w

theorem ints_head {w : World} {B : Nat} {v : Value} {l : List Int} (h : Ints w B v l) (h1 : 1 ≤ l.length) : ∃ g c, v = .slice (some ⟨g, 0, none⟩) l.length c ∧ w.cell? ⟨g, 0, none⟩ = some (.int .i64 (at0 l 0)) := by
  rcases h.form with ⟨rfl, rfl⟩ | ⟨g, cap, rfl, _, _⟩
  · simp at h1
  · refine ⟨g, cap, rfl, ?_⟩
    have := h.cell 0 (by omega)
    unfold at0
    exact this

def CutRel (s : ByteArray) (w : World) (v i : Value) (wr : World) : Prop :=
  ∃ (a f : Nat) (acc : List Int), i = .int .i64 a ∧ Ints wr w.heap.size v acc ∧ acc ++ cutsFrom s f a = cutsFrom s s.size 0 ∧ s.size ≤ a + f ∧ a ≤ s.size ∧ acc.length ≤ a ∧ Below w.heap.size w wr

set_option maxRecDepth 100000 in
set_option maxHeartbeats 2000000 in
theorem cuts5_any (s : ByteArray) (w : World) (hs : s.size ≤ 1048576) :
    Calls Tryz.prog 20 #[.string s] w fun e w' => ∃ v, e = .returned v ∧ Ints w' w.heap.size v (cutsL s) ∧ Below w.heap.size w w' := by
  obtain ⟨i0, hi, hz0, hz1, hz2⟩ := info_parts info_int
  have HG : Hid (cutsL s = cutsFrom s s.size 0 ++ [(s.size : Int)]) := rfl
  rw [HG.out]
  clear HG
  go_enter Tryz.func20, Tryz.ntmps20
  go_wp2
  go_loopw [3, 4] (fun v i wr => CutRel s w v i wr) (fun _ i _ => s.size - (intOf i).toNat)
  case atStart => exact ⟨0, s.size, [], rfl, World.ownsRow_nil _ _ _ _, by simp, by omega, by omega, by simp, Below.refl _ _⟩
  case round =>
    obtain ⟨a, f, acc, rfl, hown, hA, hf, ha, hal, hbw⟩ := hrel
    have hsz := hbw.size
    by_cases hp : a < s.size
    · have hd := dec_alone s hp
      have hex := Dec.size_extract s a
      have O := fun w => one_any (s.extract a s.size) (by omega) (by unfold maxLen; omega) w
      obtain ⟨f', rfl⟩ : ∃ f', f = f' + 1 := ⟨f - 1, by omega⟩
      have hst : cutsFrom s (f' + 1) a = (if a = 0 ∨ cutB (Dec.one (s.extract a s.size)).1 = true then [(a : Int)] else []) ++ cutsFrom s f' (a + (Dec.one (s.extract a s.size)).2.1) := by simp only [cutsFrom]; rw [if_pos hp]
      rw [hst] at hA
      obtain ⟨d1, d2, _⟩ := hd
      obtain ⟨r, n, ok, HO⟩ : ∃ r n ok, Hid (Dec.one (s.extract a s.size) = (r, n, ok)) := ⟨_, _, _, rfl⟩
      rw [HO.out] at O hA d1 d2
      have hn1 : 1 ≤ n := d2
      have hn2 : a + n ≤ s.size := d1
      have hA2 : acc ++ ((if a = 0 ∨ cutB r = true then [(a : Int)] else []) ++ cutsFrom s f' (a + n)) = cutsFrom s s.size 0 := hA
      have HA : Hid _ := hA2
      clear hA hA2 hst d1 d2 HO
      have D := d_any (zs := [r]) (by simp) (lit_ints wr [r] 1 rfl (by unfold maxLen; omega) #[.int .i64 r] rfl)
      have hone := nD_one r
      have HCB : Hid (cutB r = (decide (cls (at0 (nD [r]) 0) = 0) && !decide (4449 ≤ at0 (nD [r]) 0 ∧ at0 (nD [r]) 0 ≤ 4546))) := rfl
      generalize nD [r] = dl at *
      have HOW : Hid (Ints wr w.heap.size _ acc) := hown
      have HBW : Hid (Below _ _ _) := hbw
      clear hown hbw
      go_wp2_with fail
      refine (O _).mono ?_
      rintro e w1 ⟨rfl, rfl⟩
      clear O
      go_wp2_with fail
      refine D.mono ?_
      rintro e w2 ⟨v2, rfl, i2, b2⟩
      obtain ⟨g2, c2, rfl, hc0⟩ := ints_head i2 hone.1
      have hl2 : (0 : Int) < (dl.length : Int) := by omega
      have CL := fun (x : Int) (u : World) => specClass_any x u
      have IN := fun (x : Int) (u : World) => l1In_any x 4449 4546 u
      have b12 : Below w1.heap.size w1 w2 := ((Below.refl _ _).alloc (Nat.le_refl _) _).trans (b2.mono (by simp))
      have HOW2 : Hid (Ints w2 w.heap.size _ acc) := HOW.out.below b12
      have HBW2 : Hid (Below w.heap.size w w2) := HBW.out.trans (b12.mono HBW.out.size)
      have hsz2 := HBW2.out.size
      clear D i2 b2 b12 HOW HBW hone
      generalize at0 dl 0 = x at *
      by_cases h0 : a = 0
      · have hown := HOW2.out
        have HA3 : Hid ((acc ++ [(a : Int)]) ++ cutsFrom s f' (a + n) = cutsFrom s s.size 0) := by
          show _ = _
          have := HA.out
          rw [if_pos (.inl h0)] at this
          simpa using this
        have h08 : (a : Int) = 0 := by omega
        unfold Ints at hown
        clear HA HCB CL IN
        subst h0
        go_wp2_with (at_builtin; refine wpList_append_own _ rfl _ _ 35 rfl w.heap.size 3 i0 (.int .i64 0) 1 8 Tryz.underlying35 hi hz0 hz1 hz2 rfl (by decide) _ _ _ rfl (hown.alloc _) ⟨_, 0, none⟩ 1 1 [.int .i64 ((0 : Nat) : Int)] rfl rfl (cell_one_new _ _ _) (fun x hx => by simp at hx; subst hx; rfl) (by unfold maxLen; omega) (by omega) (by simp; omega) ?_; intro v' w3 hown' hgrow3 _)
        have hb3 := Below.grown (HBW2.out.alloc (by omega) _) hgrow3 (by simp; omega) (fun j hj => (hown.lt _ hj).1)
        exact ⟨⟨0 + n, f', acc ++ [((0 : Nat) : Int)], by go_num, Ints.snoc hown', HA3.out, by omega, by omega, by simp; omega, hb3⟩, by simp [intOf]; omega⟩
      · have h08 : ((a : Int) == 0) = false := by simp; omega
        have CX := CL x
        have IX := IN x
        clear CL IN
        by_cases hc : cls x = 0
        · rw [hc] at CX
          by_cases hin : 4449 ≤ x ∧ x ≤ 4546
          · rw [decide_eq_true hin] at IX
            have HA3 : Hid (acc ++ cutsFrom s f' (a + n) = cutsFrom s s.size 0) := by
              show _ = _
              have := HA.out
              rw [if_neg (by rw [HCB.out]; simp [h0, hin])] at this
              simpa using this
            clear HA HCB
            go_wp2_with fail
            refine (CX _).mono ?_
            rintro e w3 ⟨rfl, rfl⟩
            go_wp2_with fail
            refine (IX _).mono ?_
            rintro e w4 ⟨rfl, rfl⟩
            clear CX IX
            go_wp2
            exact ⟨⟨a + n, f', acc, by go_num, HOW2.out, HA3.out, by omega, by omega, by omega, HBW2.out⟩, by simp [intOf]; omega⟩
          · rw [decide_eq_false hin] at IX
            have HA3 : Hid ((acc ++ [(a : Int)]) ++ cutsFrom s f' (a + n) = cutsFrom s s.size 0) := by
              show _ = _
              have := HA.out
              rw [if_pos (.inr (by rw [HCB.out, decide_eq_true hc, decide_eq_false hin]; rfl))] at this
              simpa using this
            have hown := HOW2.out
            unfold Ints at hown
            clear HA HCB
            go_wp2_with fail
            refine (CX _).mono ?_
            rintro e w3 ⟨rfl, rfl⟩
            go_wp2_with fail
            refine (IX _).mono ?_
            rintro e w4 ⟨rfl, rfl⟩
            clear CX IX
            go_wp2_with (at_builtin; refine wpList_append_own _ rfl _ _ 35 rfl w.heap.size 3 i0 (.int .i64 0) 1 8 Tryz.underlying35 hi hz0 hz1 hz2 rfl (by decide) _ _ _ rfl (hown.alloc _) ⟨_, 0, none⟩ 1 1 [.int .i64 (a : Int)] rfl rfl (cell_one_new _ _ _) (fun x hx => by simp at hx; subst hx; rfl) (by unfold maxLen; omega) (by omega) (by simp; omega) ?_; intro v' w5 hown' hgrow5 _)
            have hb5 := Below.grown (HBW2.out.alloc (by omega) _) hgrow5 (by simp; omega) (fun j hj => (hown.lt _ hj).1)
            exact ⟨⟨a + n, f', acc ++ [(a : Int)], by go_num, Ints.snoc hown', HA3.out, by omega, by omega, by simp; omega, hb5⟩, by simp [intOf]; omega⟩
        · have hc8 : (cls x == 0) = false := by simp; exact hc
          have HA3 : Hid (acc ++ cutsFrom s f' (a + n) = cutsFrom s s.size 0) := by
            show _ = _
            have := HA.out
            rw [if_neg (by rw [HCB.out]; simp [h0, hc])] at this
            simpa using this
          clear HA HCB IX
          go_wp2_with fail
          refine (CX _).mono ?_
          rintro e w3 ⟨rfl, rfl⟩
          clear CX
          go_wp2
          exact ⟨⟨a + n, f', acc, by go_num, HOW2.out, HA3.out, by omega, by omega, by omega, HBW2.out⟩, by simp [intOf]; omega⟩
    · have hn8 : ¬ (a : Int) < (s.size : Int) := by omega
      have HE : Hid (acc = cutsFrom s s.size 0) := by
        show _ = _
        rw [cutsFrom_end s f a hp, List.append_nil] at hA
        exact hA
      clear hA
      have hi2 := hown
      unfold Ints at hown
      go_wp2_with (at_builtin; refine wpList_append_own _ rfl _ _ 35 rfl w.heap.size 3 i0 (.int .i64 0) 1 8 Tryz.underlying35 hi hz0 hz1 hz2 rfl (by decide) _ _ _ rfl (hown.alloc _) ⟨_, 0, none⟩ 1 1 [.int .i64 (s.size : Int)] rfl rfl (cell_one_new _ _ _) (fun x hx => by simp at hx; subst hx; rfl) (by unfold maxLen; omega) (by omega) (by simp; omega) ?_; intro v' w3 hown' hgrow3 _)
      go_ret
      have hb3 := Below.grown (hbw.alloc (by omega) _) hgrow3 (by simp; omega) (fun j hj => (hown.lt _ hj).1)
      refine ⟨_, rfl, ?_, hb3⟩
      rw [← HE.out]
      exact Ints.snoc hown'
end Go.Proofs.YtinjldagfhbioaaGreatDoor

namespace Go.Proofs.YtinjldagfhbioaaGreatDoor
open Go.RowKit

def spC (p : Int × Int) : List Value := [.int .i64 p.1, .int .i64 p.2]
def spAll (ps : List (Int × Int)) : List Value := ps.flatMap spC

/-- A row of spans of the call's own. -/
def Spans (w : World) (B : Nat) (v : Value) (ps : List (Int × Int)) : Prop := w.ownsRow B 32 2 v ps.length (spAll ps)

theorem Spans.snoc {w : World} {B : Nat} {v : Value} {ps : List (Int × Int)} {p : Int × Int} (h : w.ownsRow B 32 2 v (ps.length + 1) (spAll ps ++ spC p)) : Spans w B v (ps ++ [p]) := by
  have e : spAll (ps ++ [p]) = spAll ps ++ spC p := by simp [spAll]
  unfold Spans
  rw [e, List.length_append]
  exact h

theorem Spans.below {w w' : World} {B : Nat} {v : Value} {ps : List (Int × Int)} (h : Spans w B v ps) (hb : Below w.heap.size w w') : Spans w' B v ps :=
  World.ownsRow.kept h (row := none) ⟨hb.os, hb.tape, hb.output, hb.size, fun k hk _ => hb.block k hk⟩ (by cases h : v.ownBlock <;> simp)

theorem Spans.low {w : World} {B B' : Nat} {v : Value} {ps : List (Int × Int)} (h : Spans w B' v ps) (hB : B ≤ B') : Spans w B v ps := by
  obtain ⟨h1, h2⟩ := h
  refine ⟨h1, ?_⟩
  rcases h2 with h2 | ⟨g, cap, cur, a, b, c⟩
  · exact .inl h2
  · exact .inr ⟨g, cap, cur, a, by omega, c⟩

theorem Spans.slice {w : World} {B : Nat} {v : Value} {ps : List (Int × Int)} (h : Spans w B v ps) : ∃ a c, v = .slice a ps.length c := by
  rcases h.2 with ⟨h1, h2⟩ | ⟨g, cap, cur, h1, _⟩
  · rw [h1, h2]; exact ⟨_, _, rfl⟩
  · exact ⟨_, _, h1⟩

theorem info_span : (Tryz.prog.info? 32).map (fun i => (i.zero, i.size, i.bytes)) = some (some (.agg #[.int .i64 0, .int .i64 0]), 2, 16) := by kernel_rfl

theorem cells2_at (w : World) (n : Nat) (p : Int × Int) (t : TypeId) (hn : n = w.heap.size) : ∀ j u, (spC p)[j]? = some u → (w.alloc (.cells #[.int .i64 p.1, .int .i64 p.2] t)).cell? ((⟨n, 0, none⟩ : Addr).add j) = some u := by
  subst hn
  intro j u hj
  match j, hj with
  | 0, hj => simp [spC] at hj; subst hj; simp [Addr.add]
  | 1, hj => simp [spC] at hj; subst hj; simp [Addr.add]
  | j + 2, hj => simp [spC] at hj

theorem cells2_of {u W : World} (p : Int × Int) (t : TypeId) (h : W.heap = (u.alloc (.cells #[.int .i64 p.1, .int .i64 p.2] t)).heap) : ∀ j x, (spC p)[j]? = some x → W.cell? ((⟨u.heap.size, 0, none⟩ : Addr).add j) = some x := fun j x hj => by
  have e : W.cell? ((⟨u.heap.size, 0, none⟩ : Addr).add j) = (u.alloc (.cells #[.int .i64 p.1, .int .i64 p.2] t)).cell? ((⟨u.heap.size, 0, none⟩ : Addr).add j) := World.cell?_of_block (by rw [h])
  rw [e]
  exact cells2_at u _ p t rfl j x hj

theorem own_of {u W : World} {B e n size : Nat} {v : Value} {xs : List Value} (h : u.ownsRow B e size v n xs) (o : Obj) (he : W.heap = (u.alloc o).heap) : W.ownsRow B e size v n xs := by
  have := World.ownsRow.alloc h o
  unfold World.ownsRow at this ⊢
  rw [he]; exact this

def FtRel (es : List Ent) (sh : Bool) (want : List Int) (s : ByteArray) (goal : List (Int × Int)) (W : World) (v i : Value) (wr : World) : Prop :=
  ∃ (k f : Nat) (acc : List (Int × Int)), i = .int .i64 k ∧ k ≤ nPc s + 1 ∧ nPc s < k + f ∧ Spans wr W.heap.size v acc ∧ acc.length ≤ k ∧ acc ++ (spansF es sh want (pcS s) (nPc s) f k).map (spn s) = goal ∧ Below W.heap.size W wr

theorem mtB_cat {es : List Ent} {sh : Bool} {want : List Int} {s : ByteArray} {i n : Nat} (hn : 1 ≤ n) (h : i + n ≤ nPc s) : mtB es sh want (s.extract (cutAt s i) (cutAt s (i + n))) = (decide (0 < want.length) && decide (firstsB es sh (catP (pcS s) i n) = want)) := by
  unfold mtB
  rw [stretch_cat hn h]

set_option maxRecDepth 100000 in
set_option maxHeartbeats 8000000 in
/-- The loops, from the cuts and what is wanted. -/
theorem specFind_any {w : World} {B : Nat} {ve : Value} {es : List Ent} {sh : Bool} {lv : Int} (s : ByteArray) (hs : s.size ≤ 1048576) (t : ByteArray) (htz : t.size ≤ 1048576) (hE : Ents w B ve es) (hr : ∀ e ∈ es, e.runes.length ≤ 1048576) :
    Calls Tryz.prog 6 #[.agg #[ve, .bool sh, .int .i64 lv], .string s, .string t] w fun e w' => ∃ v', e = .returned (.tuple #[v', .bool (okF es sh lv s t)]) ∧ Spans w' w.heap.size v' (findA es sh lv s t) ∧ Below w.heap.size w w' := by
  obtain ⟨va, vc, rfl⟩ := ents_slice hE
  have hbx : Below w.heap.size w (w.alloc (.cells #[.slice va es.length vc, .bool sh, .int .i64 lv] 25)) := (Below.refl _ _).alloc (Nat.le_refl _) _
  have hbox : BoxS (w.alloc (.cells #[.slice va es.length vc, .bool sh, .int .i64 lv] 25)) w.heap.size (.slice va es.length vc) sh lv := heap_alloc_new w _
  have hlb : w.heap.size < (w.alloc (.cells #[.slice va es.length vc, .bool sh, .int .i64 lv] 25)).heap.size := by simp
  obtain ⟨W, HW⟩ : ∃ W, Hid (W = w.alloc (.cells #[.slice va es.length vc, .bool sh, .int .i64 lv] 25)) := ⟨_, rfl⟩
  rw [← HW.out] at hbx hbox hlb
  have HE : Hid (Ents W _ (.slice va es.length vc) es) := hE.below hbx
  have HR : Hid (∀ e ∈ es, e.runes.length ≤ 1048576) := hr
  have HBX : Hid (BoxS W w.heap.size (.slice va es.length vc) sh lv) := hbox
  have HB0 : Hid (Below w.heap.size w W) := hbx
  have R1 := runes4_any s W (by omega)
  have R2 := fun u => runes4_any t u (by omega)
  have GR := fun (u : World) (hu : Below W.heap.size W u) => good3_any (sh := sh) (lv := lv) (HE.out.below hu) HR.out
  have HOF : Hid (okF es sh lv s t = ((ok4 s && rulesOk es lv) && (ok4 t && rulesOk es lv) && decide ((findL es sh s t).length ≤ 60))) := rfl
  have HFA : Hid (findA es sh lv s t = if okF es sh lv s t = true then findL es sh s t else []) := rfl
  rw [HFA.out, HOF.out]
  clear hE hr hbox hbx HFA HOF
  cases ho1 : ok4 s
  · rw [ho1] at R1
    rw [Bool.false_and, Bool.false_and, Bool.false_and, if_neg (by simp)]
    clear GR ho1
    go_enter Tryz.func6, Tryz.ntmps6
    go_wp2_with fail
    rw [← HW.out]
    refine R1.mono ?_
    rintro e w1 ⟨v1, rfl, _, b1⟩
    clear R1
    go_wp2_with fail
    refine (R2 _).mono ?_
    rintro e w2 ⟨v2, rfl, _, b2⟩
    clear R2
    go_wp2
    go_ret2
    exact ⟨_, rfl, ⟨rfl, .inl ⟨rfl, rfl⟩⟩, HB0.out.trans ((b1.trans (b2.mono b1.size)).mono HB0.out.size)⟩
  · rw [ho1] at R1
    cases ho2 : ok4 t
    · rw [ho2] at R2
      rw [Bool.false_and, Bool.and_false, Bool.false_and, if_neg (by simp)]
      clear GR ho1 ho2
      go_enter Tryz.func6, Tryz.ntmps6
      go_wp2_with fail
      rw [← HW.out]
      refine R1.mono ?_
      rintro e w1 ⟨v1, rfl, _, b1⟩
      clear R1
      go_wp2_with fail
      refine (R2 _).mono ?_
      rintro e w2 ⟨v2, rfl, _, b2⟩
      clear R2
      go_wp2
      go_ret2
      exact ⟨_, rfl, ⟨rfl, .inl ⟨rfl, rfl⟩⟩, HB0.out.trans ((b1.trans (b2.mono b1.size)).mono HB0.out.size)⟩
    · rw [ho2] at R2
      cases hro : rulesOk es lv
      · rw [hro] at GR
        rw [Bool.and_false, Bool.false_and, Bool.false_and, if_neg (by simp)]
        clear ho1 ho2 hro
        go_enter Tryz.func6, Tryz.ntmps6
        go_wp2_with fail
        rw [← HW.out]
        refine R1.mono ?_
        rintro e w1 ⟨v1, rfl, _, b1⟩
        clear R1
        go_wp2_with fail
        refine (R2 _).mono ?_
        rintro e w2 ⟨v2, rfl, _, b2⟩
        have b12 := b1.trans (b2.mono b1.size)
        obtain ⟨p0, p1, p2⟩ := (HBX.out.below b12 hlb).cells
        have G := GR _ b12
        clear R2 GR b1 b2
        go_wp2_with fail
        refine G.mono ?_
        rintro e w3 ⟨rfl, b3⟩
        clear G
        go_wp2
        go_ret2
        exact ⟨_, rfl, ⟨rfl, .inl ⟨rfl, rfl⟩⟩, HB0.out.trans ((b12.trans (b3.mono b12.size)).mono HB0.out.size)⟩
      · rw [hro] at GR
        have hen : es.length ≤ 1048576 := by have := (rulesOk_parts hro).1; omega
        have C5 := fun u => cuts5_any s u hs
        have F5 := fun (u : World) (hu : Below W.heap.size W u) => firsts5_any (sh := sh) (lv := lv) t ho2 (HE.out.below hu) hen HR.out
        have HO1 : Hid (ok4 s = true) := ho1
        have hs2 := (ok4_parts ho1).1
        have hN := nPc_le (s := s)
        have hCL := cutsL_len s
        have HCS : Hid (∀ k, k ≤ nPc s → (cutsL s)[k]? = some (cutAt s k : Int)) := fun k hk => cutsL_some hk
        have hwl : (wantT es sh t).length ≤ 400 := by have h1 := firstsB_len es sh (rn4 t); have h2 := (ok4_parts ho2).2; unfold wantT; omega
        have HG : Hid (findL es sh s t = (spansF es sh (wantT es sh t) (pcS s) (nPc s) (nPc s + 1) 0).map (spn s)) := rfl
        change ∀ (u : World), Below W.heap.size W u → Calls Tryz.prog 21 #[.agg #[.slice va es.length vc, .bool sh, .int .i64 lv], .string t] u fun e w' => ∃ v', e = .returned v' ∧ Ints w' u.heap.size v' (wantT es sh t) ∧ Below u.heap.size u w' at F5
        rw [Bool.and_self, Bool.true_and, Bool.true_and]
        generalize findL es sh s t = goal at *
        obtain ⟨bo, HBO⟩ : ∃ bo, Hid (decide (goal.length ≤ 60) = bo) := ⟨_, rfl⟩
        rw [HBO.out]
        generalize wantT es sh t = want at *
        generalize cutsL s = cl at *
        clear ho1 ho2 hro
        obtain ⟨i0, hi, hz0, hz1, hz2⟩ := info_parts info_span
        go_enter Tryz.func6, Tryz.ntmps6
        go_wp2_with fail
        rw [← HW.out]
        refine R1.mono ?_
        rintro e w1 ⟨v1, rfl, _, b1⟩
        clear R1
        go_wp2_with fail
        refine (R2 _).mono ?_
        rintro e w2 ⟨v2, rfl, _, b2⟩
        have b12 := b1.trans (b2.mono b1.size)
        obtain ⟨p0, p1, p2⟩ := (HBX.out.below b12 hlb).cells
        have G := GR _ b12
        clear R2 GR b1 b2
        go_wp2_with fail
        refine G.mono ?_
        rintro e w3 ⟨rfl, b3⟩
        have b13 := b12.trans (b3.mono b12.size)
        clear G p0 p1 p2 b12 b3
        go_wp2_with fail
        refine (C5 _).mono ?_
        rintro e w4 ⟨v4, rfl, i4, b4⟩
        have b14 := b13.trans (b4.mono b13.size)
        obtain ⟨p0, p1, p2⟩ := (HBX.out.below b14 hlb).cells
        have F := F5 _ b14
        have hl14 := b14.size
        clear C5 F5 b13 b4
        go_wp2_with fail
        refine F.mono ?_
        rintro e w5 ⟨v5, rfl, i5, b5⟩
        have HB5 : Hid (Below W.heap.size W w5) := b14.trans (b5.mono b14.size)
        have HI4 : Hid (Ints w5 _ v4 cl) := i4.below b5
        have HI5 : Hid (Ints w5 _ v5 want) := i5
        obtain ⟨gc, cc, rfl, _, hgc, _⟩ := ints_form1S HI4.out (by omega)
        have HC5 : Hid (∀ u, Below w5.heap.size w5 u → ∀ k, k ≤ nPc s → u.cell? ⟨gc, k, none⟩ = some (.int .i64 (cutAt s k : Int))) := fun u hu k hk => by
          have h1 := (HI4.out.below hu).cell k (by omega)
          rw [HCS.out k hk] at h1
          exact h1
        obtain ⟨wa, wc, rfl⟩ := lenS_form HI5.out
        rw [hCL]
        have hl5 : w.heap.size < w5.heap.size := Nat.lt_of_lt_of_le hlb HB5.out.size
        clear F i4 i5 b14 b5 p0 p1 p2
        go_wp2_with fail
        go_loopw [14, 15] (fun v i wr => FtRel es sh want s goal w5 v i wr) (fun _ i _ => nPc s + 2 - (intOf i).toNat)
        case atStart => exact ⟨0, nPc s + 1, [], rfl, by omega, by omega, ⟨rfl, .inl ⟨rfl, rfl⟩⟩, by simp, by rw [HG.out]; rfl, Below.refl _ _⟩
        case round =>
          clear HG
          obtain ⟨i, f, acc, rfl, hi1, hif, hSp, hal, hgo, hbr⟩ := hrel
          by_cases hic : i ≤ nPc s
          · obtain ⟨f', rfl⟩ : ∃ f', f = f' + 1 := ⟨f - 1, by omega⟩
            have hi8 : (i : Int) < ((nPc s + 1 : Nat) : Int) := by omega
            have hi9 : (i : Int) < (nPc s : Int) + 1 := by omega
            obtain ⟨M, HM⟩ : ∃ M, Hid ((if want = [] then none else matchF es sh want (pcS s) i (nPc s - i) 1) = M) := ⟨_, rfl⟩
            have HNX : Hid (∀ k, M = some k → i < nPc s → (acc ++ [spn s (i, k)]) ++ (spansF es sh want (pcS s) (nPc s) f' k).map (spn s) = goal) := fun k hk hin => by
              rw [← hgo, spansF_some hin (HM.out.trans hk)]
              simp
            have HNN : Hid (M = none → acc ++ (spansF es sh want (pcS s) (nPc s) f' (i + 1)).map (spn s) = goal) := fun hk => by
              by_cases hin : i < nPc s
              · rw [← hgo, spansF_none hin (HM.out.trans hk)]
              · rw [← hgo, spansF_end hin, spansF_end (by omega)]
            have HSP : Hid (Spans wr w5.heap.size _ acc) := hSp
            have HBR : Hid (Below w5.heap.size w5 wr) := hbr
            have hlr : w.heap.size < wr.heap.size := Nat.lt_of_lt_of_le hl5 hbr.size
            obtain ⟨aa, ac, rfl⟩ := hSp.slice
            clear hgo hSp hbr
            obtain ⟨w6, rfl⟩ : ∃ w6, w6 = wr := ⟨_, rfl⟩
            go_wp2_with fail
            go_loopw [14, 15, 16] (fun ov iv kv wq => ∃ n : Nat, ov = .slice aa acc.length ac ∧ iv = .int .i64 (i : Int) ∧ kv = .int .i64 ((i + n : Nat) : Int) ∧ 1 ≤ n ∧ i + n ≤ nPc s + 1 ∧ (if want = [] then none else matchF es sh want (pcS s) i (nPc s + 1 - i - n) n) = M ∧ Below w6.heap.size w6 wq) (fun _ _ kv _ => nPc s + 2 - (intOf kv).toNat)
            case atStart => exact ⟨1, rfl, rfl, by go_num, by omega, by omega, by rw [show nPc s + 1 - i - 1 = nPc s - i by omega]; exact HM.out, Below.refl _ _⟩
            case round =>
              clear HM
              obtain ⟨n, rfl, rfl, rfl, hn1, hn2, hm, hbq⟩ := hrel
              have HMM : Hid ((if want = [] then none else matchF es sh want (pcS s) i (nPc s + 1 - i - n) n) = M) := hm
              clear hm
              have HBQ : Hid (Below w6.heap.size w6 wr) := hbq
              clear hbq
              by_cases hkc : i + n ≤ nPc s
              · have hk8 : ((i + n : Nat) : Int) < ((nPc s + 1 : Nat) : Int) := by omega
                have hk9 : (i : Int) + (n : Int) < (nPc s : Int) + 1 := by omega
                obtain ⟨so1, so2, so3⟩ := stretch_ok (s := s) (i := i) (k := i + n) (by omega) hkc HO1.out
                have hc8 : (cutAt s i : Int) ≤ (cutAt s (i + n) : Int) := by omega
                have hc9 : (cutAt s (i + n) : Int) ≤ (s.size : Int) := by omega
                have HUP : Hid (∀ u, Below wr.heap.size wr u → Below w5.heap.size w5 u) := fun u hu => HBR.out.trans ((HBQ.out.trans (hu.mono HBQ.out.size)).mono HBR.out.size)
                have MK := fun (u : World) (hu : Below wr.heap.size wr u) => (⟨(HBX.out.below (HB5.out.trans ((HUP.out u hu).mono HB5.out.size)) hlb).cells.1, (HBX.out.below (HB5.out.trans ((HUP.out u hu).mono HB5.out.size)) hlb).cells.2.1, (HBX.out.below (HB5.out.trans ((HUP.out u hu).mono HB5.out.size)) hlb).cells.2.2, HC5.out u (HUP.out u hu) i hic, HC5.out u (HUP.out u hu) (i + n) hkc, hu⟩ : u.cell? ⟨w.heap.size, 0, none⟩ = some (.slice va es.length vc) ∧ u.cell? ⟨w.heap.size, 1, none⟩ = some (.bool sh) ∧ u.cell? ⟨w.heap.size, 2, none⟩ = some (.int .i64 lv) ∧ u.cell? ⟨gc, i, none⟩ = some (.int .i64 (cutAt s i : Int)) ∧ u.cell? ⟨gc, i + n, none⟩ = some (.int .i64 (cutAt s (i + n) : Int)) ∧ Below wr.heap.size wr u)
                have hS := MK wr (Below.refl _ _)
                have hS2 := MK wr.drew ((Below.refl _ _).drew)
                have K := fun (u1 u2 : World) (hb : Below u1.heap.size u1 u2) (hu : u1.cell? ⟨w.heap.size, 0, none⟩ = some (.slice va es.length vc) ∧ u1.cell? ⟨w.heap.size, 1, none⟩ = some (.bool sh) ∧ u1.cell? ⟨w.heap.size, 2, none⟩ = some (.int .i64 lv) ∧ u1.cell? ⟨gc, i, none⟩ = some (.int .i64 (cutAt s i : Int)) ∧ u1.cell? ⟨gc, i + n, none⟩ = some (.int .i64 (cutAt s (i + n) : Int)) ∧ Below wr.heap.size wr u1) => MK u2 (hu.2.2.2.2.2.trans (hb.mono hu.2.2.2.2.2.size))
                have MT := fun (u : World) (hu : u.cell? ⟨w.heap.size, 0, none⟩ = some (.slice va es.length vc) ∧ u.cell? ⟨w.heap.size, 1, none⟩ = some (.bool sh) ∧ u.cell? ⟨w.heap.size, 2, none⟩ = some (.int .i64 lv) ∧ u.cell? ⟨gc, i, none⟩ = some (.int .i64 (cutAt s i : Int)) ∧ u.cell? ⟨gc, i + n, none⟩ = some (.int .i64 (cutAt s (i + n) : Int)) ∧ Below wr.heap.size wr u) => match5_any (sh := sh) (lv := lv) (s.extract (cutAt s i) (cutAt s (i + n))) so1 (HE.out.below (HB5.out.trans ((HUP.out u hu.2.2.2.2.2).mono HB5.out.size))) hen HR.out (HI5.out.below (HUP.out u hu.2.2.2.2.2)) (by omega)
                rw [mtB_cat hn1 hkc] at MT
                obtain ⟨bm, HBM⟩ : ∃ bm, Hid ((decide (0 < want.length) && decide (firstsB es sh (catP (pcS s) i n) = want)) = bm) := ⟨_, rfl⟩
                rw [HBM.out] at MT
                have HYE : Hid (bm = true → M = some (i + n)) := fun h => by
                  have h1 := HBM.out
                  rw [h, Bool.and_eq_true] at h1
                  have h2 := of_decide_eq_true h1.2
                  have h3 := of_decide_eq_true h1.1
                  have h4 := HMM.out
                  rw [if_neg (fun c => by rw [c] at h3; simp at h3), show nPc s + 1 - i - n = (nPc s - i - n) + 1 by omega, matchF, if_pos h2] at h4
                  exact h4.symm
                have HNO : Hid (bm = false → (if want = [] then none else matchF es sh want (pcS s) i (nPc s + 1 - i - (n + 1)) (n + 1)) = M) := fun h => by
                  have h4 := HMM.out
                  by_cases c : want = []
                  · rw [if_pos c] at h4 ⊢
                    exact h4
                  · have hp : 0 < want.length := by cases want; exact absurd rfl c; simp
                    have h1 := HBM.out
                    rw [h, decide_eq_true hp, Bool.true_and] at h1
                    rw [if_neg c, show nPc s + 1 - i - n = (nPc s + 1 - i - (n + 1)) + 1 by omega, matchF, if_neg (of_decide_eq_false h1)] at h4
                    rw [if_neg c]
                    exact h4
                clear MK HMM HBM so1 so2 so3
                go_wp2_with fail
                go_region_held (fun u => u.cell? ⟨w.heap.size, 0, none⟩ = some (.slice va es.length vc) ∧ u.cell? ⟨w.heap.size, 1, none⟩ = some (.bool sh) ∧ u.cell? ⟨w.heap.size, 2, none⟩ = some (.int .i64 lv) ∧ u.cell? ⟨gc, i, none⟩ = some (.int .i64 (cutAt s i : Int)) ∧ u.cell? ⟨gc, i + n, none⟩ = some (.int .i64 (cutAt s (i + n) : Int)) ∧ Below wr.heap.size wr u)
                  (first | exact hS2 | exact K _ _ (by assumption) (by assumption))
                  (first | (go_at_call 22; refine (MT _ (by assumption)).mono ?_; rintro e w' ⟨rfl, hbw⟩))
                all_goals
                  have hE9 := (show w'.cell? ⟨w.heap.size, 0, none⟩ = _ ∧ _ ∧ _ ∧ _ ∧ _ ∧ Below wr.heap.size wr w' by assumption)
                  obtain ⟨_, _, _, y0, y1, hw9⟩ := hE9
                  clear hS hS2 K MT
                  cases bm
                  · have HN1 := HNO.out rfl
                    have HBN := HBQ.out.trans (hw9.mono HBQ.out.size)
                    clear HNO HYE HUP
                    go_wp2
                    exact ⟨⟨n + 1, rfl, rfl, by go_num, by omega, by omega, HN1, HBN⟩, by simp [intOf]; omega⟩
                  · have hY := HNX.out (i + n) (HYE.out rfl) (by omega)
                    have hZ : Below w5.heap.size w5 w' := HUP.out w' hw9
                    have hSw := (HSP.out.below HBQ.out).below hw9
                    unfold Spans at hSw
                    have hsz9 := hZ.size
                    have hgc9 : gc < w'.heap.size := by omega
                    have HY : Hid _ := hY
                    have htn : ((i : Int) + (n : Int)).toNat = i + n := by omega
                    have HZB : Hid (Below w5.heap.size w5 w') := hZ
                    clear HNO HYE HUP hY hZ
                    go_wp2_with fail
                    go_region_law (refine step_append_lies _ rfl (.tmp 70) (.tmp 80) 28 rfl w5.heap.size 32 i0 _ 2 16 Tryz.underlying28 hi hz0 hz1 hz2 rfl (by decide) (.slice aa acc.length ac) acc.length (spAll acc) (by simp [Act.eval]) (own_of hSw _ rfl) ⟨w'.heap.size, 0, none⟩ 1 1 (spC ((cutAt s i : Int), (cutAt s (i + n) : Int))) (by simp [Act.eval]) rfl (cells2_of ((cutAt s i : Int), (cutAt s (i + n) : Int)) _ rfl) (fun z hz => by simp [spC] at hz; rcases hz with rfl | rfl <;> rfl) (by omega) (by unfold maxLen; omega) (by omega) (by simp; omega) (w'.heap.size + 1) (by simp) ?_; intro g9 cap9 w9 ho9 hg9 hgo9 hlt9)
                    all_goals
                      have hb9 : Below w5.heap.size w5 w9 := by
                        refine Below.grown ?_ hg9 ?_ ?_
                        · first | exact (HZB.out.drew).alloc (by simp; omega) _ | exact HZB.out.alloc (by omega) _
                        · simp; omega
                        · intro j hj
                          exact (World.ownsRow.lt hSw j hj).1
                      have hs9 : Spans w9 w5.heap.size _ (acc ++ [spn s (i, i + n)]) := Spans.snoc ho9
                      clear hSw ho9 hg9 hgo9 hlt9 HZB
                      go_wp2
                      exact ⟨⟨i + n, f', acc ++ [spn s (i, i + n)], by go_num, by omega, by omega, by simpa using hs9, by simp; omega, HY.out, hb9⟩, by simp [intOf]; omega⟩
              · have hk8 : ¬ (((i + n : Nat) : Int) < ((nPc s + 1 : Nat) : Int)) := by omega
                have hk9 : ¬ ((i : Int) + (n : Int) < (nPc s : Int) + 1) := by omega
                have HNM : Hid (M = none) := by
                  show _ = _
                  rw [← HMM.out, show nPc s + 1 - i - n = 0 by omega]
                  split <;> rfl
                have HN1 := HNN.out HNM.out
                have HSQ := HSP.out.below HBQ.out
                have HBZ := HBR.out.trans (HBQ.out.mono HBR.out.size)
                clear HMM HNN HNX HNM
                go_wp2
                exact ⟨⟨i + 1, f', acc, by go_num, by omega, by omega, HSQ, by omega, HN1, HBZ⟩, by simp [intOf]; omega⟩
          · have hie : i = nPc s + 1 := by omega
            subst hie
            have HGO : Hid (acc = goal) := by
              show _ = _
              rw [← hgo, spansF_end (by omega)]
              simp
            obtain ⟨aa, ac, rfl⟩ := hSp.slice
            have HSP : Hid (Spans wr w5.heap.size _ acc) := hSp
            have hbw : Below w.heap.size w wr := HB0.out.trans ((HB5.out.trans (hbr.mono HB5.out.size)).mono HB0.out.size)
            have hlw : w.heap.size ≤ w5.heap.size := by omega
            clear hgo hSp hbr
            by_cases h60 : acc.length ≤ 60
            · have h68 : ¬ (60 : Int) < (acc.length : Int) := by omega
              obtain rfl : bo = true := by rw [← HBO.out, ← HGO.out]; exact decide_eq_true h60
              clear HBO
              go_wp2
              go_ret2
              have h9 := HSP.out.low hlw
              rw [HGO.out] at h9
              exact ⟨_, rfl, (by simpa [HGO.out] using h9), hbw⟩
            · have h68 : (60 : Int) < (acc.length : Int) := by omega
              obtain rfl : bo = false := by rw [← HBO.out, ← HGO.out]; exact decide_eq_false h60
              clear HBO
              go_wp2
              go_ret2
              exact ⟨_, rfl, ⟨rfl, .inl ⟨rfl, rfl⟩⟩, hbw⟩
end Go.Proofs.YtinjldagfhbioaaGreatDoor

namespace Go.Proofs.YtinjldagfhbioaaGreatDoor
open Go.RowKit

theorem spAll_at (ps : List (Int × Int)) (k i : Nat) (p : Int × Int) (h : ps[k]? = some p) (hi : i < 2) : (spAll ps)[k * 2 + i]? = (spC p)[i]? := by
  induction ps generalizing k with
  | nil => simp at h
  | cons x ps ih =>
    show (spC x ++ spAll ps)[k * 2 + i]? = _
    cases k with
    | zero =>
      simp at h; subst h
      rw [Nat.zero_mul, Nat.zero_add, List.getElem?_append_left (by show i < 2; exact hi)]
    | succ k =>
      have h' : ps[k]? = some p := by simpa using h
      rw [List.getElem?_append_right (by show 2 ≤ _; omega)]
      have e2 : (k + 1) * 2 + i - (spC x).length = k * 2 + i := by show (k + 1) * 2 + i - 2 = _; omega
      rw [e2]; exact ih k h'

theorem spAll_set (ps : List (Int × Int)) (k : Nat) (p : Int × Int) (h : k < ps.length) : spAll (ps.set k p) = ((spAll ps).set (k * 2) (.int .i64 p.1)).set (k * 2 + 1) (.int .i64 p.2) := by
  induction ps generalizing k with
  | nil => simp at h
  | cons x ps ih =>
    cases k with
    | zero => rfl
    | succ k =>
      have h' : k < ps.length := by simpa using h
      show spC x ++ spAll (ps.set k p) = ((spC x ++ spAll ps).set ((k + 1) * 2) _).set ((k + 1) * 2 + 1) _
      rw [ih k h', List.set_append_right _ _ (by show 2 ≤ _; omega), List.set_append_right _ _ (by show 2 ≤ _; omega)]
      have q0 : (k + 1) * 2 - (spC x).length = k * 2 := by show (k + 1) * 2 - 2 = _; omega
      have q1 : (k + 1) * 2 + 1 - (spC x).length = k * 2 + 1 := by show (k + 1) * 2 + 1 - 2 = _; omega
      rw [q0, q1]

theorem Spans.form {w : World} {B : Nat} {v : Value} {ps : List (Int × Int)} (h : Spans w B v ps) : (v = .slice none 0 0 ∧ ps = []) ∨ ∃ g cap, v = .slice (some ⟨g, 0, none⟩) ps.length cap ∧ ps.length ≤ cap ∧ cap ≤ maxLen := by
  rcases h.2 with ⟨a, b⟩ | ⟨g, cap, cur, a, b, c, d, e, _⟩
  · exact .inl ⟨a, List.eq_nil_of_length_eq_zero b⟩
  · exact .inr ⟨g, cap, a, d, e⟩

theorem Spans.cells {w : World} {B g cap : Nat} {ps : List (Int × Int)} (h : Spans w B (.slice (some ⟨g, 0, none⟩) ps.length cap) ps) (k : Nat) (p : Int × Int) (hk : ps[k]? = some p) :
    w.cell? ⟨g, k * 2, none⟩ = some (.int .i64 p.1) ∧ w.cell? ⟨g, k * 2 + 1, none⟩ = some (.int .i64 p.2) := by
  have hlt := (List.getElem?_eq_some_iff.1 hk).1
  have at' : ∀ i, i < 2 → w.cell? ⟨g, k * 2 + i, none⟩ = (spC p)[i]? := fun i hi => by
    rw [World.ownsRow.cellAt h (k * 2 + i) (by omega), spAll_at ps k i p hk hi]
  exact ⟨at' 0 (by omega), at' 1 (by omega)⟩
end Go.Proofs.YtinjldagfhbioaaGreatDoor
