/- Texts of mine laid together: SBook6, IFRow6, SameR6. -/
import Derived.Test.YtbgomhgohphglaaDoorMP3
import Derived.Test.YtbgomhgohphglaaDoorPRow6
import Derived.Test.YtbgomhgohphglaaDoorRw
import Derived.BigQuiet
import Derived.Deep.QuietTactic
import Derived.Deep.RegionHeld
namespace Go.Proofs.YtbgomhgohphglaaDoor
open Go.RowKit

/-- The key that stands last in the page ahead. -/
def lastOf (ss : List ByteArray) : Nat → ByteArray
  | 0 => ⟨#[]⟩
  | j + 1 => match ss[j]? with
    | none => ⟨#[]⟩
    | some y => endK (readP y)

theorem lastOf_succ {ss : List ByteArray} {j : Nat} {y : ByteArray} (h : ss[j]? = some y) : lastOf ss (j + 1) = endK (readP y) := by simp [lastOf, h]

def SBkRel (w : World) (ss : List ByteArray) (vb vl i : Value) (wr : World) : Prop :=
  ∃ (k hi : Nat) (vs : List Value), k ≤ ss.length ∧ i = .int .i64 (k : Int) ∧ vl = .string (lastOf ss k) ∧ NestR wr w.heap.size hi vb (accK ss k) vs ∧ bkF (accK ss k) (ss.drop k) = bookF ss ∧ Below w.heap.size w wr

set_option maxRecDepth 100000 in
set_option maxHeartbeats 8000000 in
theorem specAll_any {w : World} {B : Nat} {vp : Value} {ss : List ByteArray} (hS : Strs w B vp ss) (hz : ∀ s ∈ ss, s.size ≤ 1048576) (hl : ss.length ≤ 1048576) :
    Calls Tryd.prog 46 #[vp] w fun e w' => ∃ v, e = .returned (.tuple #[v, .bool (bookF ss).isSome]) ∧ (∀ gs, bookF ss = some gs → ∃ vs, NestR w' w.heap.size w'.heap.size v gs vs) ∧ Below w.heap.size w w' := by
  obtain ⟨a, c, rfl, hq⟩ := strs6_all hS
  have HQ : Hid _ := hq
  have HZ : Hid (∀ s ∈ ss, s.size ≤ 1048576) := hz
  clear hS hq hz
  by_cases h40 : ss.length ≤ 40
  · have n40 : ¬ (40 : Int) < (ss.length : Int) := by omega
    obtain ⟨i1, hi1, hy0, hy1, hy2⟩ := info_parts info_rwL
    have HB0 : Hid (bkF (accK ss 0) (ss.drop 0) = bookF ss) := by show _ = _; unfold bookF; rw [if_pos h40]; simp [accK]
    go_enter Tryd.func46, Tryd.ntmps46
    go_wp2_with fail
    go_loopw [4, 5, 15] (fun vb vl i wr => SBkRel w ss vb vl i wr) (fun _ _ i _ => ss.length - (intOf i).toNat)
    case atStart => exact ⟨0, _, [], Nat.zero_le _, rfl, rfl, NestR.nil w _, HB0.out, Below.refl _ _⟩
    case round =>
      obtain ⟨k, hi, vs, hk, rfl, rfl, hN, hE, hb⟩ := hrel
      by_cases hlt : k < ss.length
      · obtain ⟨s, hs⟩ : ∃ s, ss[k]? = some s := ⟨_, List.getElem?_eq_getElem hlt⟩
        obtain ⟨g, rfl, qc⟩ := HQ.out k s hs
        have c0 := qc wr hb k s hs
        have hc0 := rw_cell_lt c0
        have hlt8 : (k : Int) < (ss.length : Int) := by omega
        have RD := specRead_any s wr (HZ.out s (List.mem_of_getElem? hs))
        have hrl := readP_len s
        have hsz := HZ.out s (List.mem_of_getElem? hs)
        have HS : Hid (ss[k]? = some s) := hs
        have HN : Hid (NestR wr w.heap.size hi _ (accK ss k) vs) := hN
        have HE : Hid (bkF (accK ss k) (ss.drop k) = bookF ss) := hE
        have HB : Hid (Below w.heap.size w wr) := hb
        clear hs hN hE hb qc
        by_cases hcd : codeP s = 0
        · rw [hcd] at RD
          have hpos := readP_some hcd
          have HLO : Hid (lastOf ss (k + 1) = endK (readP s)) := lastOf_succ HS.out
          obtain ⟨x0, hx0⟩ : ∃ x0, (readP s)[0]? = some x0 := ⟨_, List.getElem?_eq_getElem hpos⟩
          obtain ⟨xl, hxl⟩ : ∃ xl, (readP s)[(readP s).length - 1]? = some xl := ⟨_, List.getElem?_eq_getElem (by omega)⟩
          have HX0 : Hid (begK (readP s) = x0.key) := begK_at hx0
          have HXL : Hid (endK (readP s) = xl.key) := endK_at hxl
          have HX : Hid ((readP s)[0]? = some x0) := hx0
          have HXX : Hid ((readP s)[(readP s).length - 1]? = some xl) := hxl
          clear hx0 hxl
          have hm1 : ((readP s).length : Int) - 1 = (((readP s).length - 1 : Nat) : Int) := by omega
          have hm2 : (((readP s).length - 1 : Nat) : Int) < ((readP s).length : Int) := by omega
          have hpos8 : (0 : Int) < ((readP s).length : Int) := by omega
          go_wp2_with fail
          refine RD.mono ?_
          rintro e w2 ⟨v2, rfl, r2, b2⟩
          obtain ⟨g2, c2, rfl, q2⟩ := rws_at r2 hpos
          have d0 : w2.cell? ⟨g2, 0, none⟩ = some (.string x0.key) := q2 0 x0 HX.out
          have dl := q2 _ xl HXX.out
          have hd0 := rw_cell_lt d0
          have HN2 : Hid (NestR w2 w.heap.size hi u4 (accK ss k) vs) := HN.out.below b2
          have HB2 : Hid (Below w.heap.size w w2) := HB.out.trans (b2.mono HB.out.size)
          have HR2 : Hid (Rws w2 wr.heap.size _ _) := r2
          have HBR : Hid (Below wr.heap.size wr w2) := b2
          clear RD r2 b2 q2
          by_cases hk0 : k = 0
          · subst hk0
            have HO : Hid (okNext (accK ss 0) s = true) := by show _ = _; rw [okNext_zero, hcd]; rfl
            have HN3 : Hid (NestR w2 w.heap.size hi _ (accK ss 0) vs) := HN2.out
            have HB3 : Hid (Below w.heap.size w w2) := HB2.out
            have hgn : (accK ss 0).length = 0 := accK_len hk
            have hsU := HB3.out.size
            have bA := (Below.refl w2.heap.size w2).alloc (Nat.le_refl _) (.cells #[.slice (some ⟨g2, 0, none⟩) (readP s).length c2] 23)
            have hrow := (HN3.out.below bA).row
            obtain ⟨a1, c1, hv1, _⟩ := HN3.out.form
            subst hv1
            have HU : Hid (Below wr.heap.size wr (w2.alloc (.cells #[.slice (some ⟨g2, 0, none⟩) (readP s).length c2] 23))) := HBR.out.alloc HBR.out.size _
            have HX0' : Hid (Rws (w2.alloc (.cells #[.slice (some ⟨g2, 0, none⟩) (readP s).length c2] 23)) wr.heap.size (.slice (some ⟨g2, 0, none⟩) (readP s).length c2) (readP s)) := HR2.out.below bA
            go_wp2_with (at_builtin; refine wpList_append_lies _ rfl _ _ 52 rfl w.heap.size 23 i1 (.slice none 0 0) 1 24 Tryd.underlying52 hi1 hy0 hy1 hy2 rfl (by decide) _ _ _ rfl hrow ⟨_, 0, none⟩ 1 1 [.slice (some ⟨g2, 0, none⟩) (readP s).length c2] rfl rfl (cell_one_new _ _ _) (fun x hx => by simp at hx; subst hx; rfl) (by omega) (by unfold maxLen; omega) (by omega) (by simp; omega) _ rfl ?_)
            intro g5 c5 u5 ho5 hg5 hgo5 hlt5
            have N5 := HN.out.push HB.out.size HU.out HX0'.out hg5 ho5
            have B5 : Below w.heap.size w u5 := Below.grown (HB3.out.trans (bA.mono HB3.out.size)) hg5 (Nat.le_trans HB3.out.size bA.size) (fun j hj => (World.ownsRow.lt hrow j hj).1)
            have NN : NestR u5 w.heap.size u5.heap.size (.slice (some ⟨g5, 0, none⟩) ((accK ss 0).length + 1) c5) (accK ss (0 + 1)) _ := accK_succ HS.out ▸ N5
            have HNN : Hid (NestR _ _ _ _ _ _) := NN
            have HB5 : Hid (Below w.heap.size w u5) := B5
            have HE5 : Hid (bkF (accK ss (0 + 1)) (ss.drop (0 + 1)) = bookF ss) := by show _ = _; rw [← HE.out, bkF_yes HS.out HO.out, accK_succ HS.out]
            clear N5 B5 NN HN HB HU HX0' hg5 ho5 hrow bA HN3 HB3 HN2 HB2 HR2 HBR HE
            go_wp2
            exact ⟨⟨0 + 1, _, _, by omega, by go_num, (by rw [HLO.out, HXL.out]), HNN.out, HE5.out, HB5.out⟩, by simp [intOf]; omega⟩
          · obtain ⟨j, rfl⟩ : ∃ j, k = j + 1 := ⟨k - 1, by omega⟩
            obtain ⟨y, hy⟩ : ∃ y, ss[j]? = some y := ⟨_, List.getElem?_eq_getElem (by omega)⟩
            have hon := okNext_succ (s := s) hy
            rw [hcd, HX0.out, ← lastOf_succ hy] at hon
            have hj8 : (0 : Int) < ((j + 1 : Nat) : Int) := by omega
            generalize lastOf ss (j + 1) = lk at *
            cases hlk : ltK lk x0.key
            · have HF : Hid (bookF ss = none) := by show _ = _; rw [← HE.out]; exact bkF_no HS.out (by rw [hon, hlk]; rfl)
              unfold ltK at hlk
              clear hon
              go_wp2_with fail
              have HB3 : Hid (Below w.heap.size w w2) := HB2.out
              go_ret2
              rw [HF.out]
              exact ⟨_, rfl, fun gs h => (by cases h), HB3.out⟩
            · have HO : Hid (okNext (accK ss (j + 1)) s = true) := by show _ = _; rw [hon, hlk]; rfl
              unfold ltK at hlk
              clear hon
              have HN3 : Hid (NestR w2 w.heap.size hi _ (accK ss (j + 1)) vs) := HN2.out
              have HB3 : Hid (Below w.heap.size w w2) := HB2.out
              have hgn : (accK ss (j + 1)).length = j + 1 := accK_len hk
              have hsU := HB3.out.size
              have bA := (Below.refl w2.heap.size w2).alloc (Nat.le_refl _) (.cells #[.slice (some ⟨g2, 0, none⟩) (readP s).length c2] 23)
              have hrow := (HN3.out.below bA).row
              obtain ⟨a1, c1, hv1, _⟩ := HN3.out.form
              subst hv1
              rw [hgn] at hrow
              have HU : Hid (Below wr.heap.size wr (w2.alloc (.cells #[.slice (some ⟨g2, 0, none⟩) (readP s).length c2] 23))) := HBR.out.alloc HBR.out.size _
              have HX0' : Hid (Rws (w2.alloc (.cells #[.slice (some ⟨g2, 0, none⟩) (readP s).length c2] 23)) wr.heap.size (.slice (some ⟨g2, 0, none⟩) (readP s).length c2) (readP s)) := HR2.out.below bA
              go_wp2_with (at_builtin; refine wpList_append_lies _ rfl _ _ 52 rfl w.heap.size 23 i1 (.slice none 0 0) 1 24 Tryd.underlying52 hi1 hy0 hy1 hy2 rfl (by decide) _ _ _ rfl hrow ⟨_, 0, none⟩ 1 1 [.slice (some ⟨g2, 0, none⟩) (readP s).length c2] rfl rfl (cell_one_new _ _ _) (fun x hx => by simp at hx; subst hx; rfl) (by omega) (by unfold maxLen; omega) (by omega) (by simp; omega) _ rfl ?_)
              intro g5 c5 u5 ho5 hg5 hgo5 hlt5
              have N5 := HN.out.push HB.out.size HU.out HX0'.out (by rw [hgn]; exact hg5) (by rw [hgn]; exact ho5)
              rw [accK_succ HS.out, hgn] at N5
              have B5 : Below w.heap.size w u5 := Below.grown (HB3.out.trans (bA.mono HB3.out.size)) hg5 (Nat.le_trans HB3.out.size bA.size) (fun i hj => (World.ownsRow.lt hrow i hj).1)
              have NN : NestR u5 w.heap.size u5.heap.size (.slice (some ⟨g5, 0, none⟩) (j + 1 + 1) c5) (accK ss (j + 1 + 1)) _ := N5
              have HNN : Hid (NestR _ _ _ _ _ _) := NN
              have HB5 : Hid (Below w.heap.size w u5) := B5
              have HE5 : Hid (bkF (accK ss (j + 1 + 1)) (ss.drop (j + 1 + 1)) = bookF ss) := by show _ = _; rw [← HE.out, bkF_yes HS.out HO.out, accK_succ HS.out]
              clear N5 B5 NN HN HB HU HX0' hg5 ho5 hrow bA HN3 HB3 HN2 HB2 HR2 HBR HE
              go_wp2
              exact ⟨⟨j + 1 + 1, _, _, by omega, by go_num, (by rw [HLO.out, HXL.out]), HNN.out, HE5.out, HB5.out⟩, by simp [intOf]; omega⟩
        · have HF : Hid (bookF ss = none) := by show _ = _; rw [← HE.out]; exact bkF_no HS.out (by unfold okNext; rw [decide_eq_false hcd]; rfl)
          generalize codeP s = cd at *
          go_wp2_with fail
          refine RD.mono ?_
          rintro e w2 ⟨v2, rfl, r2, b2⟩
          obtain ⟨a2, c2, rfl⟩ := rw_form r2
          have HB2 : Hid (Below w.heap.size w w2) := HB.out.trans (b2.mono HB.out.size)
          clear RD r2 b2
          go_wp2_with fail
          have HB3 : Hid (Below w.heap.size w w2) := HB2.out
          go_ret2
          rw [HF.out]
          exact ⟨_, rfl, fun gs h => (by cases h), HB3.out⟩
      · have hkz : k = ss.length := by omega
        subst hkz
        have HF : Hid (bookF ss = some (accK ss ss.length)) := by show _ = _; rw [← hE, bkF_end]
        have HN : Hid (NestR wr w.heap.size hi _ (accK ss ss.length) vs) := hN
        have HB : Hid (Below w.heap.size w wr) := hb
        clear hN hb hE
        go_wp2
        go_ret2
        rw [HF.out]
        exact ⟨_, rfl, fun gs h => by obtain rfl := Option.some.inj h; exact ⟨_, HN.out.high HN.out.top (Nat.le_refl _)⟩, HB.out⟩
  · have n40 : (40 : Int) < (ss.length : Int) := by omega
    have HF : Hid (bookF ss = none) := by show _ = _; unfold bookF; rw [if_neg h40]
    go_enter Tryd.func46, Tryd.ntmps46
    go_wp2
    go_ret2
    rw [HF.out]
    exact ⟨_, rfl, fun gs h => (by cases h), Below.refl _ _⟩
end Go.Proofs.YtbgomhgohphglaaDoor

namespace Go.Proofs.YtbgomhgohphglaaDoor
open Go.RowKit

theorem results_rw {fn : Func} {p u u2 : Tmp} {ty : TypeId} (h : fn.results = #[.cell p ty, .tmp u, .tmp u2]) (tmps : Array Value) (P : Program) (w : World) :
    (results fn tmps).run P w = ((asAddr (tmps.getD p undef)).run P w).andThen fun a w₁ => ((loadVar ty a).run P w₁).andThen fun v w₂ => .ok (.tuple #[v, tmps.getD u undef, tmps.getD u2 undef]) w₂ := by
  simp only [results, h]
  simp [Sem.run_bind, Result.andThen]

/-- The block of a Row that is the answer, still zero. -/
def BoxR (u : World) (b : Nat) : Prop := u.heap[b]? = some (.cells #[.string ⟨#[]⟩, .string ⟨#[]⟩, .string ⟨#[]⟩] 32)

theorem BoxR.facts {u : World} {b : Nat} (h : BoxR u b) : b < u.heap.size ∧ (u.cell? ⟨b, 0, none⟩ = some (.string ⟨#[]⟩) ∧ u.cell? ⟨b, 1, none⟩ = some (.string ⟨#[]⟩) ∧ u.cell? ⟨b, 2, none⟩ = some (.string ⟨#[]⟩)) ∧ ∀ j, u.frozen? ⟨b, j, none⟩ = false :=
  ⟨(Array.getElem?_eq_some_iff.1 h).1, ⟨cell_of_row _ _ 0 _ _ _ h, cell_of_row _ _ 1 _ _ _ h, cell_of_row _ _ 2 _ _ _ h⟩, fun j => by
    have h' : u.heap[b]? = _ := h
    simp [World.frozen?, h']⟩

theorem BoxR.below {u u' : World} {b : Nat} (h : BoxR u b) (hb : Below u.heap.size u u') : BoxR u' b := by
  have hf := h.facts.1
  show u'.heap[b]? = _
  rw [hb.block _ hf]
  exact h

theorem boxR_new (w : World) : BoxR (w.alloc (.cells #[.string ⟨#[]⟩, .string ⟨#[]⟩, .string ⟨#[]⟩] 32)) w.heap.size := heap_alloc_new w _

theorem below_res3 {w wr : World} (h : Below w.heap.size w wr) (x y z : Value) : Below w.heap.size w (((wr.setCell ⟨w.heap.size, 0, none⟩ x).setCell ⟨w.heap.size, 1, none⟩ y).setCell ⟨w.heap.size, 2, none⟩ z) :=
  ((h.setCell (Nat.le_refl _) _).setCell (Nat.le_refl _) _).setCell (Nat.le_refl _) _

/-- The answer, put together. -/
def frV (a : Rw × Nat) (ok : Bool) : Value := .tuple #[rwV a.1, .int .i64 (a.2 : Int), .bool ok]

set_option maxRecDepth 100000 in
set_option maxHeartbeats 8000000 in
theorem implFR_any {w : World} {B : Nat} {vp : Value} {ss : List ByteArray} (key : ByteArray) (hS : Strs w B vp ss) (hz : ∀ s ∈ ss, s.size ≤ 1048576) (hl : ss.length ≤ 1048576) {ty : TypeId} {pv : Value} (hg : ErrG w ty pv) :
    Calls Tryd.prog 12 #[vp, .string key] w fun e w' => e = .returned (frV (findA ss key) (bookF ss).isSome) ∧ Below w.heap.size w w' := by
  have hba := (Below.refl w.heap.size w).alloc (Nat.le_refl _) (.cells #[.string ⟨#[]⟩, .string ⟨#[]⟩, .string ⟨#[]⟩] 32)
  have HX : Hid (BoxR _ _) := boxR_new w
  have HB : Hid (Below _ _ _) := hba
  have BK := openBook_any (hS.below hba) hz hl (show ErrG _ ty pv from (hba.cell (p := ⟨0, 0, none⟩) hg.lt).trans hg)
  obtain ⟨a, c, rfl, _⟩ := strs6_all hS
  obtain ⟨R, HR⟩ : ∃ R, Hid (findA ss key = R) := ⟨_, rfl⟩
  rw [HR.out]
  clear hS hz hg hba
  cases hbk : bookF ss with
  | none =>
    have HA : Hid (R = (rwZ, 0)) := by show _ = _; rw [← HR.out]; exact findA_bad hbk
    rw [hbk] at BK
    clear hbk
    go_enter Tryd.func12, Tryd.ntmps12
    go_wp2_with fail
    refine BK.mono ?_
    rintro e w2 ⟨v2, rfl, _, b2⟩
    obtain ⟨hx1, ⟨x0, x1, x2⟩, xf⟩ := (HX.out.below b2).facts
    have HB2 : Hid (Below w.heap.size w w2) := HB.out.trans (b2.mono HB.out.size)
    clear BK HX HB b2
    go_wp2
    refine bodyPost_ret (v := .tuple #[.agg #[.string ⟨#[]⟩, .string ⟨#[]⟩, .string ⟨#[]⟩], .int .i64 0, .bool false]) ?_ rfl ⟨by rw [HA.out]; rfl, below_res3 HB2.out _ _ _⟩
    rw [results_rw rfl]
    go_simp
  | some gs =>
    rw [hbk] at BK
    obtain ⟨hgl, hg60⟩ := bookF_is hbk
    have HG : Hid (∀ l ∈ gs, goodR l = true ∧ 0 < l.length) := bookF_good hbk
    have HGL : Hid (∀ l ∈ gs, 0 < l.length ∧ l.length ≤ 1048576) := fun l hl => ⟨(HG.out l hl).2, by have := hg60 l hl; omega⟩
    obtain ⟨hp1, hp2⟩ := pageF_le gs key
    have HBK : Hid (bookF ss = some gs) := hbk
    clear hg60 hbk
    go_enter Tryd.func12, Tryd.ntmps12
    go_wp2_with fail
    refine BK.mono ?_
    rintro e w2 ⟨v2, rfl, hN, b2⟩
    obtain ⟨vs, N2⟩ := hN gs rfl
    have PF := pageFor_any key N2 (by omega) HGL.out
    obtain ⟨a2, c2, rfl, fm⟩ := N2.form
    have HN : Hid (NestR w2 _ w2.heap.size _ gs vs) := N2
    have HFM : Hid _ := fm
    have HX2 : Hid (BoxR w2 w.heap.size) := HX.out.below b2
    have HB2 : Hid (Below w.heap.size w w2) := HB.out.trans (b2.mono HB.out.size)
    obtain ⟨P, HP⟩ : ∃ P, Hid (pageF gs key = P) := ⟨_, rfl⟩
    rw [HP.out] at PF hp1 hp2
    obtain ⟨p, lk⟩ := P
    simp only [] at PF hp1 hp2
    clear BK HX HB b2 hN N2 fm
    by_cases hpe : p = gs.length
    · have HA : Hid (R = (rwZ, lk)) := by show _ = _; rw [← HR.out, findA_end HBK.out (by rw [HP.out]; exact hpe), HP.out]
      subst hpe
      go_wp2_with fail
      refine PF.mono ?_
      rintro e w3 ⟨rfl, rfl⟩
      obtain ⟨hx1, ⟨x0, x1, x2⟩, xf⟩ := HX2.out.facts
      clear PF HX2 HN HFM
      go_wp2
      refine bodyPost_ret (v := .tuple #[.agg #[.string ⟨#[]⟩, .string ⟨#[]⟩, .string ⟨#[]⟩], .int .i64 (lk : Int), .bool true]) ?_ rfl ⟨by rw [HA.out]; rfl, below_res3 HB2.out _ _ _⟩
      rw [results_rw rfl]
      go_simp
    · have hpl : p < gs.length := by omega
      have hp8 : (p : Int) < (gs.length : Int) := by omega
      have hpn : ¬ (p : Int) = (gs.length : Int) := by omega
      obtain ⟨l, hl'⟩ : ∃ l, gs[p]? = some l := ⟨_, List.getElem?_eq_getElem hpl⟩
      have HA : Hid (R = (rowIn l key, lk + 1)) := by show _ = _; rw [← HR.out, findA_page HBK.out (by rw [HP.out]; exact hl'), HP.out]
      have hrise := goodR_rise (HG.out l (List.mem_of_getElem? hl')).1
      have hll := HGL.out l (List.mem_of_getElem? hl')
      obtain ⟨vl, hvl, hI, _⟩ := HN.out.ins p l hl'
      obtain ⟨gb, rfl, _, hgb, cb, _⟩ := HFM.out p _ hvl
      obtain ⟨al, cl, rfl⟩ := rw_form hI
      have PL := placeOf_any (c := cl) key (rws_sl hI) hll.2
      have HI : Hid (Rws w2 _ (.slice al l.length cl) l) := hI
      clear hI hvl hl' HN HFM HG HGL
      cases hth : thereF l key
      · have HRR : Hid (R = (rwZ, lk + 1)) := by show _ = _; rw [HA.out, rowIn_none (rowIn_not hrise hth)]
        rw [hth] at PL
        clear HA
        generalize placeF l key = pl at *
        go_wp2_with fail
        refine PF.mono ?_
        rintro e w3 ⟨rfl, rfl⟩
        clear PF
        go_wp2_with fail
        refine PL.mono ?_
        rintro e w4 ⟨rfl, b4⟩
        obtain ⟨hx1, ⟨x0, x1, x2⟩, xf⟩ := (HX2.out.below b4).facts
        have HB4 : Hid (Below w.heap.size w w4) := HB2.out.trans (b4.mono HB2.out.size)
        clear PL HX2 HB2 b4 cb HI
        go_wp2
        refine bodyPost_ret (v := .tuple #[.agg #[.string ⟨#[]⟩, .string ⟨#[]⟩, .string ⟨#[]⟩], .int .i64 ((lk : Int) + 1), .bool true]) ?_ rfl ⟨by rw [HRR.out]; unfold frV; simp [rwV, rwZ], below_res3 HB4.out _ _ _⟩
        rw [results_rw rfl]
        go_simp
      · obtain ⟨hR, hpll⟩ := rowIn_there hrise hth
        rw [hth] at PL
        obtain ⟨x, hx⟩ : ∃ x, rwAt l (placeF l key) = x := ⟨_, rfl⟩
        have hxl := rwAt_lt hpll
        rw [hx] at hxl
        have HRR : Hid (R = (x, lk + 1)) := by show _ = _; rw [HA.out, hR, hx]
        clear hR hx hth hrise HA
        generalize placeF l key = pl at *
        have hpl8 : (pl : Int) < (l.length : Int) := by omega
        have hll2 := hll.2
        have HXL : Hid (l[pl]? = some x) := hxl
        clear hxl
        go_wp2_with fail
        refine PF.mono ?_
        rintro e w3 ⟨rfl, rfl⟩
        clear PF
        go_wp2_with fail
        refine PL.mono ?_
        rintro e w4 ⟨rfl, b4⟩
        obtain ⟨hx1, ⟨x0, x1, x2⟩, xf⟩ := (HX2.out.below b4).facts
        have HB4 : Hid (Below w.heap.size w w4) := HB2.out.trans (b4.mono HB2.out.size)
        have cb4 : w4.cell? ⟨gb, p, none⟩ = some (.slice al l.length cl) := (b4.cell (p := ⟨gb, p, none⟩) hgb).trans cb
        have hgb4 := rw_cell_lt cb4
        rcases rws_sl (HI.out.below b4) with h0 | ⟨b, o, rfl, hE⟩
        · rw [h0] at hpl8; simp at hpl8; omega
        obtain ⟨a0, a1, a2⟩ := hE pl x HXL.out
        have hbl := rw_cell_lt a0
        have HAB : Hid (b ≠ w.heap.size) := fun e => by
          rcases HI.out.form with ⟨q, _⟩ | ⟨g', cap', q, _⟩
          · cases q
          · cases q
            have := (World.ownsRow.lt HI.out b rfl).1
            simp at this
            omega
        clear PL HX2 HB2 b4 cb HI hE HXL
        go_wp2
        refine bodyPost_ret (v := .tuple #[.agg #[.string x.key, .string x.text, .string x.val], .int .i64 ((lk : Int) + 1), .bool true]) ?_ rfl ⟨by rw [HRR.out]; unfold frV; simp [rwV], below_res3 HB4.out _ _ _⟩
        rw [results_rw rfl]
        go_simp
end Go.Proofs.YtbgomhgohphglaaDoor

namespace Go.Proofs.YtbgomhgohphglaaDoor
open Go.RowKit

set_option maxRecDepth 100000 in
set_option maxHeartbeats 1000000 in
theorem sameR_none (w : World) (a b : Option Addr) (c d : Nat) : Calls Tryd.prog 11 #[.slice a 0 c, .slice b 0 d] w fun e w' => e = .returned (.bool true) ∧ Below w.heap.size w w' := by
  go_enter Tryd.func11, Tryd.ntmps11
  go_wp2
  go_loopw [13] (fun i wr => i = .int .i64 0 ∧ wr = w) (fun _ _ => 0)
  case atStart => exact ⟨rfl, rfl⟩
  case round =>
    obtain ⟨rfl, rfl⟩ := hrel
    go_wp2
    go_ret
    exact ⟨rfl, Below.refl _ _⟩

def SRel6 (w : World) (n : Nat) (i : Value) (wr : World) : Prop := ∃ k : Nat, k ≤ n ∧ i = .int .i64 k ∧ Below w.heap.size w wr

set_option maxRecDepth 100000 in
set_option maxHeartbeats 2000000 in
theorem sameR_row (w : World) (B B' g g' cap cap' : Nat) (es : List Rw) (hz : es.length ≤ 1048576) (h1 : Rws w B (.slice (some ⟨g, 0, none⟩) es.length cap) es) (h2 : Rws w B' (.slice (some ⟨g', 0, none⟩) es.length cap') es) :
    Calls Tryd.prog 11 #[.slice (some ⟨g, 0, none⟩) es.length cap, .slice (some ⟨g', 0, none⟩) es.length cap'] w fun e w' => e = .returned (.bool true) ∧ Below w.heap.size w w' := by
  have hg := (World.ownsRow.lt h1 g rfl).2
  have hg' := (World.ownsRow.lt h2 g' rfl).2
  go_enter Tryd.func11, Tryd.ntmps11
  go_wp2
  go_loopw [13] (fun i wr => SRel6 w es.length i wr) (fun i _ => es.length - (intOf i).toNat)
  case atStart => exact ⟨0, Nat.zero_le _, rfl, Below.refl _ _⟩
  case round =>
    obtain ⟨k, hk, rfl, hb⟩ := hrel
    by_cases hlt : k < es.length
    · obtain ⟨e, he⟩ : ∃ e, es[k]? = some e := ⟨_, List.getElem?_eq_getElem hlt⟩
      obtain ⟨a0, a1, a2⟩ := (h1.below hb).cells k e he
      obtain ⟨b0, b1, b2⟩ := (h2.below hb).cells k e he
      have hk8 : (k : Int) < (es.length : Int) := by omega
      clear he h1 h2
      go_wp2_with fail
      go_region
      all_goals
        go_wp2
        exact ⟨⟨k + 1, by omega, by go_num, hb.drew⟩, by simp [intOf]; omega⟩
    · go_wp2
      go_ret
      exact ⟨rfl, hb⟩

theorem sameR_any {w : World} {B B' : Nat} {a b : Value} {es : List Rw} (hz : es.length ≤ 1048576) (ha : Rws w B a es) (hb : Rws w B' b es) :
    Calls Tryd.prog 11 #[a, b] w fun e w' => e = .returned (.bool true) ∧ Below w.heap.size w w' := by
  rcases ha.form with ⟨rfl, rfl⟩ | ⟨g, cap, rfl, h1, h2⟩
  · rcases hb.form with ⟨rfl, _⟩ | ⟨g', cap', rfl, _, _⟩
    · exact sameR_none w _ _ _ _
    · exact sameR_none w _ _ _ _
  · rcases hb.form with ⟨rfl, rfl⟩ | ⟨g', cap', rfl, _, _⟩
    · exact sameR_none w _ _ _ _
    · exact sameR_row w B B' g g' cap cap' es hz ha hb
end Go.Proofs.YtbgomhgohphglaaDoor
