/- Contract of the specification's l6All. -/
import Derived.Test.YticogafoopkflaaDoorIBook6
namespace Go.Proofs.YticogafoopkflaaDoor
open Go.RowKit

/-- The key that stands last in the page ahead. -/
def lastOf (ss : List ByteArray) : Nat → ByteArray
  | 0 => ⟨#[]⟩
  | j + 1 => match ss[j]? with
    | none => ⟨#[]⟩
    | some y => endK (readP y)

theorem lastOf_succ {ss : List ByteArray} {j : Nat} {y : ByteArray} (h : ss[j]? = some y) : lastOf ss (j + 1) = endK (readP y) := by simp [lastOf, h]

def SBkRel (w : World) (ss : List ByteArray) (vb vl i : Value) (wr : World) : Prop :=
  ∃ (k hi : Nat) (vs : List Value), k ≤ ss.length ∧ i = .int .i64 (k : Int) ∧ vl = .string (lastOf ss k) ∧ NestR wr w.heap.size hi vb (accK ss k) vs ∧ bkF (accK ss k) (ss.drop k) = bookF ss ∧ Below w.heap.size w wr

set_option maxRecDepth 100000 in
set_option maxHeartbeats 8000000 in
theorem specAll_any {w : World} {B : Nat} {vp : Value} {ss : List ByteArray} (hS : Strs w B vp ss) (hz : ∀ s ∈ ss, s.size ≤ 1048576) (hl : ss.length ≤ 1048576) :
    Calls Tryd.prog 46 #[vp] w fun e w' => ∃ v, e = .returned (.tuple #[v, .bool (bookF ss).isSome]) ∧ (∀ gs, bookF ss = some gs → ∃ vs, NestR w' w.heap.size w'.heap.size v gs vs) ∧ Below w.heap.size w w' := by
  obtain ⟨a, c, rfl, hq⟩ := strs6_all hS
  have HQ : Hid _ := hq
  have HZ : Hid (∀ s ∈ ss, s.size ≤ 1048576) := hz
  clear hS hq hz
  by_cases h40 : ss.length ≤ 40
  · have n40 : ¬ (40 : Int) < (ss.length : Int) := by omega
    obtain ⟨i1, hi1, hy0, hy1, hy2⟩ := info_parts info_rwL
    have HB0 : Hid (bkF (accK ss 0) (ss.drop 0) = bookF ss) := by show _ = _; unfold bookF; rw [if_pos h40]; simp [accK]
    go_enter Tryd.func46, Tryd.ntmps46
    go_wp2_with fail
    go_loopw [4, 5, 15] (fun vb vl i wr => SBkRel w ss vb vl i wr) (fun _ _ i _ => ss.length - (intOf i).toNat)
    case atStart => exact ⟨0, _, [], Nat.zero_le _, rfl, rfl, NestR.nil w _, HB0.out, Below.refl _ _⟩
    case round =>
      obtain ⟨k, hi, vs, hk, rfl, rfl, hN, hE, hb⟩ := hrel
      by_cases hlt : k < ss.length
      · obtain ⟨s, hs⟩ : ∃ s, ss[k]? = some s := ⟨_, List.getElem?_eq_getElem hlt⟩
        obtain ⟨g, rfl, qc⟩ := HQ.out k s hs
        have c0 := qc wr hb k s hs
        have hc0 := rw_cell_lt c0
        have hlt8 : (k : Int) < (ss.length : Int) := by omega
        have RD := specRead_any s wr (HZ.out s (List.mem_of_getElem? hs))
        have hrl := readP_len s
        have hsz := HZ.out s (List.mem_of_getElem? hs)
        have HS : Hid (ss[k]? = some s) := hs
        have HN : Hid (NestR wr w.heap.size hi _ (accK ss k) vs) := hN
        have HE : Hid (bkF (accK ss k) (ss.drop k) = bookF ss) := hE
        have HB : Hid (Below w.heap.size w wr) := hb
        clear hs hN hE hb qc
        by_cases hcd : codeP s = 0
        · rw [hcd] at RD
          have hpos := readP_some hcd
          have HLO : Hid (lastOf ss (k + 1) = endK (readP s)) := lastOf_succ HS.out
          obtain ⟨x0, hx0⟩ : ∃ x0, (readP s)[0]? = some x0 := ⟨_, List.getElem?_eq_getElem hpos⟩
          obtain ⟨xl, hxl⟩ : ∃ xl, (readP s)[(readP s).length - 1]? = some xl := ⟨_, List.getElem?_eq_getElem (by omega)⟩
          have HX0 : Hid (begK (readP s) = x0.key) := begK_at hx0
          have HXL : Hid (endK (readP s) = xl.key) := endK_at hxl
          have HX : Hid ((readP s)[0]? = some x0) := hx0
          have HXX : Hid ((readP s)[(readP s).length - 1]? = some xl) := hxl
          clear hx0 hxl
          have hm1 : ((readP s).length : Int) - 1 = (((readP s).length - 1 : Nat) : Int) := by omega
          have hm2 : (((readP s).length - 1 : Nat) : Int) < ((readP s).length : Int) := by omega
          have hpos8 : (0 : Int) < ((readP s).length : Int) := by omega
          go_wp2_with fail
          refine RD.mono ?_
          rintro e w2 ⟨v2, rfl, r2, b2⟩
          obtain ⟨g2, c2, rfl, q2⟩ := rws_at r2 hpos
          have d0 : w2.cell? ⟨g2, 0, none⟩ = some (.string x0.key) := q2 0 x0 HX.out
          have dl := q2 _ xl HXX.out
          have hd0 := rw_cell_lt d0
          have HN2 : Hid (NestR w2 w.heap.size hi u4 (accK ss k) vs) := HN.out.below b2
          have HB2 : Hid (Below w.heap.size w w2) := HB.out.trans (b2.mono HB.out.size)
          have HR2 : Hid (Rws w2 wr.heap.size _ _) := r2
          have HBR : Hid (Below wr.heap.size wr w2) := b2
          clear RD r2 b2 q2
          by_cases hk0 : k = 0
          · subst hk0
            have HO : Hid (okNext (accK ss 0) s = true) := by show _ = _; rw [okNext_zero, hcd]; rfl
            have HN3 : Hid (NestR w2 w.heap.size hi _ (accK ss 0) vs) := HN2.out
            have HB3 : Hid (Below w.heap.size w w2) := HB2.out
            have hgn : (accK ss 0).length = 0 := accK_len hk
            have hsU := HB3.out.size
            have bA := (Below.refl w2.heap.size w2).alloc (Nat.le_refl _) (.cells #[.slice (some ⟨g2, 0, none⟩) (readP s).length c2] 23)
            have hrow := (HN3.out.below bA).row
            obtain ⟨a1, c1, hv1, _⟩ := HN3.out.form
            subst hv1
            have HU : Hid (Below wr.heap.size wr (w2.alloc (.cells #[.slice (some ⟨g2, 0, none⟩) (readP s).length c2] 23))) := HBR.out.alloc HBR.out.size _
            have HX0' : Hid (Rws (w2.alloc (.cells #[.slice (some ⟨g2, 0, none⟩) (readP s).length c2] 23)) wr.heap.size (.slice (some ⟨g2, 0, none⟩) (readP s).length c2) (readP s)) := HR2.out.below bA
            go_wp2_with (at_builtin; refine wpList_append_lies _ rfl _ _ 52 rfl w.heap.size 23 i1 (.slice none 0 0) 1 24 Tryd.underlying52 hi1 hy0 hy1 hy2 rfl (by decide) _ _ _ rfl hrow ⟨_, 0, none⟩ 1 1 [.slice (some ⟨g2, 0, none⟩) (readP s).length c2] rfl rfl (cell_one_new _ _ _) (fun x hx => by simp at hx; subst hx; rfl) (by omega) (by unfold maxLen; omega) (by omega) (by simp; omega) _ rfl ?_)
            intro g5 c5 u5 ho5 hg5 hgo5 hlt5
            have N5 := HN.out.push HB.out.size HU.out HX0'.out hg5 ho5
            have B5 : Below w.heap.size w u5 := Below.grown (HB3.out.trans (bA.mono HB3.out.size)) hg5 (Nat.le_trans HB3.out.size bA.size) (fun j hj => (World.ownsRow.lt hrow j hj).1)
            have NN : NestR u5 w.heap.size u5.heap.size (.slice (some ⟨g5, 0, none⟩) ((accK ss 0).length + 1) c5) (accK ss (0 + 1)) _ := accK_succ HS.out ▸ N5
            have HNN : Hid (NestR _ _ _ _ _ _) := NN
            have HB5 : Hid (Below w.heap.size w u5) := B5
            have HE5 : Hid (bkF (accK ss (0 + 1)) (ss.drop (0 + 1)) = bookF ss) := by show _ = _; rw [← HE.out, bkF_yes HS.out HO.out, accK_succ HS.out]
            clear N5 B5 NN HN HB HU HX0' hg5 ho5 hrow bA HN3 HB3 HN2 HB2 HR2 HBR HE
            go_wp2
            exact ⟨⟨0 + 1, _, _, by omega, by go_num, (by rw [HLO.out, HXL.out]), HNN.out, HE5.out, HB5.out⟩, by simp [intOf]; omega⟩
          · obtain ⟨j, rfl⟩ : ∃ j, k = j + 1 := ⟨k - 1, by omega⟩
            obtain ⟨y, hy⟩ : ∃ y, ss[j]? = some y := ⟨_, List.getElem?_eq_getElem (by omega)⟩
            have hon := okNext_succ (s := s) hy
            rw [hcd, HX0.out, ← lastOf_succ hy] at hon
            have hj8 : (0 : Int) < ((j + 1 : Nat) : Int) := by omega
            generalize lastOf ss (j + 1) = lk at *
            cases hlk : ltK lk x0.key
            · have HF : Hid (bookF ss = none) := by show _ = _; rw [← HE.out]; exact bkF_no HS.out (by rw [hon, hlk]; rfl)
              unfold ltK at hlk
              clear hon
              go_wp2_with fail
              have HB3 : Hid (Below w.heap.size w w2) := HB2.out
              go_ret2
              rw [HF.out]
              exact ⟨_, rfl, fun gs h => (by cases h), HB3.out⟩
            · have HO : Hid (okNext (accK ss (j + 1)) s = true) := by show _ = _; rw [hon, hlk]; rfl
              unfold ltK at hlk
              clear hon
              have HN3 : Hid (NestR w2 w.heap.size hi _ (accK ss (j + 1)) vs) := HN2.out
              have HB3 : Hid (Below w.heap.size w w2) := HB2.out
              have hgn : (accK ss (j + 1)).length = j + 1 := accK_len hk
              have hsU := HB3.out.size
              have bA := (Below.refl w2.heap.size w2).alloc (Nat.le_refl _) (.cells #[.slice (some ⟨g2, 0, none⟩) (readP s).length c2] 23)
              have hrow := (HN3.out.below bA).row
              obtain ⟨a1, c1, hv1, _⟩ := HN3.out.form
              subst hv1
              rw [hgn] at hrow
              have HU : Hid (Below wr.heap.size wr (w2.alloc (.cells #[.slice (some ⟨g2, 0, none⟩) (readP s).length c2] 23))) := HBR.out.alloc HBR.out.size _
              have HX0' : Hid (Rws (w2.alloc (.cells #[.slice (some ⟨g2, 0, none⟩) (readP s).length c2] 23)) wr.heap.size (.slice (some ⟨g2, 0, none⟩) (readP s).length c2) (readP s)) := HR2.out.below bA
              go_wp2_with (at_builtin; refine wpList_append_lies _ rfl _ _ 52 rfl w.heap.size 23 i1 (.slice none 0 0) 1 24 Tryd.underlying52 hi1 hy0 hy1 hy2 rfl (by decide) _ _ _ rfl hrow ⟨_, 0, none⟩ 1 1 [.slice (some ⟨g2, 0, none⟩) (readP s).length c2] rfl rfl (cell_one_new _ _ _) (fun x hx => by simp at hx; subst hx; rfl) (by omega) (by unfold maxLen; omega) (by omega) (by simp; omega) _ rfl ?_)
              intro g5 c5 u5 ho5 hg5 hgo5 hlt5
              have N5 := HN.out.push HB.out.size HU.out HX0'.out (by rw [hgn]; exact hg5) (by rw [hgn]; exact ho5)
              rw [accK_succ HS.out, hgn] at N5
              have B5 : Below w.heap.size w u5 := Below.grown (HB3.out.trans (bA.mono HB3.out.size)) hg5 (Nat.le_trans HB3.out.size bA.size) (fun i hj => (World.ownsRow.lt hrow i hj).1)
              have NN : NestR u5 w.heap.size u5.heap.size (.slice (some ⟨g5, 0, none⟩) (j + 1 + 1) c5) (accK ss (j + 1 + 1)) _ := N5
              have HNN : Hid (NestR _ _ _ _ _ _) := NN
              have HB5 : Hid (Below w.heap.size w u5) := B5
              have HE5 : Hid (bkF (accK ss (j + 1 + 1)) (ss.drop (j + 1 + 1)) = bookF ss) := by show _ = _; rw [← HE.out, bkF_yes HS.out HO.out, accK_succ HS.out]
              clear N5 B5 NN HN HB HU HX0' hg5 ho5 hrow bA HN3 HB3 HN2 HB2 HR2 HBR HE
              go_wp2
              exact ⟨⟨j + 1 + 1, _, _, by omega, by go_num, (by rw [HLO.out, HXL.out]), HNN.out, HE5.out, HB5.out⟩, by simp [intOf]; omega⟩
        · have HF : Hid (bookF ss = none) := by show _ = _; rw [← HE.out]; exact bkF_no HS.out (by unfold okNext; rw [decide_eq_false hcd]; rfl)
          generalize codeP s = cd at *
          go_wp2_with fail
          refine RD.mono ?_
          rintro e w2 ⟨v2, rfl, r2, b2⟩
          obtain ⟨a2, c2, rfl⟩ := rw_form r2
          have HB2 : Hid (Below w.heap.size w w2) := HB.out.trans (b2.mono HB.out.size)
          clear RD r2 b2
          go_wp2_with fail
          have HB3 : Hid (Below w.heap.size w w2) := HB2.out
          go_ret2
          rw [HF.out]
          exact ⟨_, rfl, fun gs h => (by cases h), HB3.out⟩
      · have hkz : k = ss.length := by omega
        subst hkz
        have HF : Hid (bookF ss = some (accK ss ss.length)) := by show _ = _; rw [← hE, bkF_end]
        have HN : Hid (NestR wr w.heap.size hi _ (accK ss ss.length) vs) := hN
        have HB : Hid (Below w.heap.size w wr) := hb
        clear hN hb hE
        go_wp2
        go_ret2
        rw [HF.out]
        exact ⟨_, rfl, fun gs h => by obtain rfl := Option.some.inj h; exact ⟨_, HN.out.high HN.out.top (Nat.le_refl _)⟩, HB.out⟩
  · have n40 : (40 : Int) < (ss.length : Int) := by omega
    have HF : Hid (bookF ss = none) := by show _ = _; unfold bookF; rw [if_neg h40]
    go_enter Tryd.func46, Tryd.ntmps46
    go_wp2
    go_ret2
    rw [HF.out]
    exact ⟨_, rfl, fun gs h => (by cases h), Below.refl _ _⟩
end Go.Proofs.YticogafoopkflaaDoor
