/- Contract of the program's FindRow. -/
import Derived.Test.YticogafoopkflaaDoorIFor6
import Derived.Test.YticogafoopkflaaDoorIPlace6
import Derived.Test.YticogafoopkflaaDoorPRow6
import Derived.Test.YticogafoopkflaaDoorSBook6
namespace Go.Proofs.YticogafoopkflaaDoor
open Go.RowKit

theorem results_rw {fn : Func} {p u u2 : Tmp} {ty : TypeId} (h : fn.results = #[.cell p ty, .tmp u, .tmp u2]) (tmps : Array Value) (P : Program) (w : World) :
    (results fn tmps).run P w = ((asAddr (tmps.getD p undef)).run P w).andThen fun a w₁ => ((loadVar ty a).run P w₁).andThen fun v w₂ => .ok (.tuple #[v, tmps.getD u undef, tmps.getD u2 undef]) w₂ := by
  simp only [results, h]
  simp [Sem.run_bind, Result.andThen]

/-- The block of a Row that is the answer, still zero. -/
def BoxR (u : World) (b : Nat) : Prop := u.heap[b]? = some (.cells #[.string ⟨#[]⟩, .string ⟨#[]⟩, .string ⟨#[]⟩] 32)

theorem BoxR.facts {u : World} {b : Nat} (h : BoxR u b) : b < u.heap.size ∧ (u.cell? ⟨b, 0, none⟩ = some (.string ⟨#[]⟩) ∧ u.cell? ⟨b, 1, none⟩ = some (.string ⟨#[]⟩) ∧ u.cell? ⟨b, 2, none⟩ = some (.string ⟨#[]⟩)) ∧ ∀ j, u.frozen? ⟨b, j, none⟩ = false :=
  ⟨(Array.getElem?_eq_some_iff.1 h).1, ⟨cell_of_row _ _ 0 _ _ _ h, cell_of_row _ _ 1 _ _ _ h, cell_of_row _ _ 2 _ _ _ h⟩, fun j => by
    have h' : u.heap[b]? = _ := h
    simp [World.frozen?, h']⟩

theorem BoxR.below {u u' : World} {b : Nat} (h : BoxR u b) (hb : Below u.heap.size u u') : BoxR u' b := by
  have hf := h.facts.1
  show u'.heap[b]? = _
  rw [hb.block _ hf]
  exact h

theorem boxR_new (w : World) : BoxR (w.alloc (.cells #[.string ⟨#[]⟩, .string ⟨#[]⟩, .string ⟨#[]⟩] 32)) w.heap.size := heap_alloc_new w _

theorem below_res3 {w wr : World} (h : Below w.heap.size w wr) (x y z : Value) : Below w.heap.size w (((wr.setCell ⟨w.heap.size, 0, none⟩ x).setCell ⟨w.heap.size, 1, none⟩ y).setCell ⟨w.heap.size, 2, none⟩ z) :=
  ((h.setCell (Nat.le_refl _) _).setCell (Nat.le_refl _) _).setCell (Nat.le_refl _) _

/-- The answer, put together. -/
def frV (a : Rw × Nat) (ok : Bool) : Value := .tuple #[rwV a.1, .int .i64 (a.2 : Int), .bool ok]

set_option maxRecDepth 100000 in
set_option maxHeartbeats 8000000 in
theorem implFR_any {w : World} {B : Nat} {vp : Value} {ss : List ByteArray} (key : ByteArray) (hS : Strs w B vp ss) (hz : ∀ s ∈ ss, s.size ≤ 1048576) (hl : ss.length ≤ 1048576) {ty : TypeId} {pv : Value} (hg : ErrG w ty pv) :
    Calls Tryd.prog 12 #[vp, .string key] w fun e w' => e = .returned (frV (findA ss key) (bookF ss).isSome) ∧ Below w.heap.size w w' := by
  have hba := (Below.refl w.heap.size w).alloc (Nat.le_refl _) (.cells #[.string ⟨#[]⟩, .string ⟨#[]⟩, .string ⟨#[]⟩] 32)
  have HX : Hid (BoxR _ _) := boxR_new w
  have HB : Hid (Below _ _ _) := hba
  have BK := openBook_any (hS.below hba) hz hl (show ErrG _ ty pv from (hba.cell (p := ⟨0, 0, none⟩) hg.lt).trans hg)
  obtain ⟨a, c, rfl, _⟩ := strs6_all hS
  obtain ⟨R, HR⟩ : ∃ R, Hid (findA ss key = R) := ⟨_, rfl⟩
  rw [HR.out]
  clear hS hz hg hba
  cases hbk : bookF ss with
  | none =>
    have HA : Hid (R = (rwZ, 0)) := by show _ = _; rw [← HR.out]; exact findA_bad hbk
    rw [hbk] at BK
    clear hbk
    go_enter Tryd.func12, Tryd.ntmps12
    go_wp2_with fail
    refine BK.mono ?_
    rintro e w2 ⟨v2, rfl, _, b2⟩
    obtain ⟨hx1, ⟨x0, x1, x2⟩, xf⟩ := (HX.out.below b2).facts
    have HB2 : Hid (Below w.heap.size w w2) := HB.out.trans (b2.mono HB.out.size)
    clear BK HX HB b2
    go_wp2
    refine bodyPost_ret (v := .tuple #[.agg #[.string ⟨#[]⟩, .string ⟨#[]⟩, .string ⟨#[]⟩], .int .i64 0, .bool false]) ?_ rfl ⟨by rw [HA.out]; rfl, below_res3 HB2.out _ _ _⟩
    rw [results_rw rfl]
    go_simp
  | some gs =>
    rw [hbk] at BK
    obtain ⟨hgl, hg60⟩ := bookF_is hbk
    have HG : Hid (∀ l ∈ gs, goodR l = true ∧ 0 < l.length) := bookF_good hbk
    have HGL : Hid (∀ l ∈ gs, 0 < l.length ∧ l.length ≤ 1048576) := fun l hl => ⟨(HG.out l hl).2, by have := hg60 l hl; omega⟩
    obtain ⟨hp1, hp2⟩ := pageF_le gs key
    have HBK : Hid (bookF ss = some gs) := hbk
    clear hg60 hbk
    go_enter Tryd.func12, Tryd.ntmps12
    go_wp2_with fail
    refine BK.mono ?_
    rintro e w2 ⟨v2, rfl, hN, b2⟩
    obtain ⟨vs, N2⟩ := hN gs rfl
    have PF := pageFor_any key N2 (by omega) HGL.out
    obtain ⟨a2, c2, rfl, fm⟩ := N2.form
    have HN : Hid (NestR w2 _ w2.heap.size _ gs vs) := N2
    have HFM : Hid _ := fm
    have HX2 : Hid (BoxR w2 w.heap.size) := HX.out.below b2
    have HB2 : Hid (Below w.heap.size w w2) := HB.out.trans (b2.mono HB.out.size)
    obtain ⟨P, HP⟩ : ∃ P, Hid (pageF gs key = P) := ⟨_, rfl⟩
    rw [HP.out] at PF hp1 hp2
    obtain ⟨p, lk⟩ := P
    simp only [] at PF hp1 hp2
    clear BK HX HB b2 hN N2 fm
    by_cases hpe : p = gs.length
    · have HA : Hid (R = (rwZ, lk)) := by show _ = _; rw [← HR.out, findA_end HBK.out (by rw [HP.out]; exact hpe), HP.out]
      subst hpe
      go_wp2_with fail
      refine PF.mono ?_
      rintro e w3 ⟨rfl, rfl⟩
      obtain ⟨hx1, ⟨x0, x1, x2⟩, xf⟩ := HX2.out.facts
      clear PF HX2 HN HFM
      go_wp2
      refine bodyPost_ret (v := .tuple #[.agg #[.string ⟨#[]⟩, .string ⟨#[]⟩, .string ⟨#[]⟩], .int .i64 (lk : Int), .bool true]) ?_ rfl ⟨by rw [HA.out]; rfl, below_res3 HB2.out _ _ _⟩
      rw [results_rw rfl]
      go_simp
    · have hpl : p < gs.length := by omega
      have hp8 : (p : Int) < (gs.length : Int) := by omega
      have hpn : ¬ (p : Int) = (gs.length : Int) := by omega
      obtain ⟨l, hl'⟩ : ∃ l, gs[p]? = some l := ⟨_, List.getElem?_eq_getElem hpl⟩
      have HA : Hid (R = (rowIn l key, lk + 1)) := by show _ = _; rw [← HR.out, findA_page HBK.out (by rw [HP.out]; exact hl'), HP.out]
      have hrise := goodR_rise (HG.out l (List.mem_of_getElem? hl')).1
      have hll := HGL.out l (List.mem_of_getElem? hl')
      obtain ⟨vl, hvl, hI, _⟩ := HN.out.ins p l hl'
      obtain ⟨gb, rfl, _, hgb, cb, _⟩ := HFM.out p _ hvl
      obtain ⟨al, cl, rfl⟩ := rw_form hI
      have PL := placeOf_any (c := cl) key (rws_sl hI) hll.2
      have HI : Hid (Rws w2 _ (.slice al l.length cl) l) := hI
      clear hI hvl hl' HN HFM HG HGL
      cases hth : thereF l key
      · have HRR : Hid (R = (rwZ, lk + 1)) := by show _ = _; rw [HA.out, rowIn_none (rowIn_not hrise hth)]
        rw [hth] at PL
        clear HA
        generalize placeF l key = pl at *
        go_wp2_with fail
        refine PF.mono ?_
        rintro e w3 ⟨rfl, rfl⟩
        clear PF
        go_wp2_with fail
        refine PL.mono ?_
        rintro e w4 ⟨rfl, b4⟩
        obtain ⟨hx1, ⟨x0, x1, x2⟩, xf⟩ := (HX2.out.below b4).facts
        have HB4 : Hid (Below w.heap.size w w4) := HB2.out.trans (b4.mono HB2.out.size)
        clear PL HX2 HB2 b4 cb HI
        go_wp2
        refine bodyPost_ret (v := .tuple #[.agg #[.string ⟨#[]⟩, .string ⟨#[]⟩, .string ⟨#[]⟩], .int .i64 ((lk : Int) + 1), .bool true]) ?_ rfl ⟨by rw [HRR.out]; unfold frV; simp [rwV, rwZ], below_res3 HB4.out _ _ _⟩
        rw [results_rw rfl]
        go_simp
      · obtain ⟨hR, hpll⟩ := rowIn_there hrise hth
        rw [hth] at PL
        obtain ⟨x, hx⟩ : ∃ x, rwAt l (placeF l key) = x := ⟨_, rfl⟩
        have hxl := rwAt_lt hpll
        rw [hx] at hxl
        have HRR : Hid (R = (x, lk + 1)) := by show _ = _; rw [HA.out, hR, hx]
        clear hR hx hth hrise HA
        generalize placeF l key = pl at *
        have hpl8 : (pl : Int) < (l.length : Int) := by omega
        have hll2 := hll.2
        have HXL : Hid (l[pl]? = some x) := hxl
        clear hxl
        go_wp2_with fail
        refine PF.mono ?_
        rintro e w3 ⟨rfl, rfl⟩
        clear PF
        go_wp2_with fail
        refine PL.mono ?_
        rintro e w4 ⟨rfl, b4⟩
        obtain ⟨hx1, ⟨x0, x1, x2⟩, xf⟩ := (HX2.out.below b4).facts
        have HB4 : Hid (Below w.heap.size w w4) := HB2.out.trans (b4.mono HB2.out.size)
        have cb4 : w4.cell? ⟨gb, p, none⟩ = some (.slice al l.length cl) := (b4.cell (p := ⟨gb, p, none⟩) hgb).trans cb
        have hgb4 := rw_cell_lt cb4
        rcases rws_sl (HI.out.below b4) with h0 | ⟨b, o, rfl, hE⟩
        · rw [h0] at hpl8; simp at hpl8; omega
        obtain ⟨a0, a1, a2⟩ := hE pl x HXL.out
        have hbl := rw_cell_lt a0
        have HAB : Hid (b ≠ w.heap.size) := fun e => by
          rcases HI.out.form with ⟨q, _⟩ | ⟨g', cap', q, _⟩
          · cases q
          · cases q
            have := (World.ownsRow.lt HI.out b rfl).1
            simp at this
            omega
        clear PL HX2 HB2 b4 cb HI hE HXL
        go_wp2
        refine bodyPost_ret (v := .tuple #[.agg #[.string x.key, .string x.text, .string x.val], .int .i64 ((lk : Int) + 1), .bool true]) ?_ rfl ⟨by rw [HRR.out]; unfold frV; simp [rwV], below_res3 HB4.out _ _ _⟩
        rw [results_rw rfl]
        go_simp
end Go.Proofs.YticogafoopkflaaDoor
