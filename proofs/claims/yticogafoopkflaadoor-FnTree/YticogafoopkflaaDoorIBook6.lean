/- Contract of the program's openBook. -/
import Derived.Test.YticogafoopkflaaDoorIReadP
import Derived.Test.YticogafoopkflaaDoorPBook6
import Derived.Test.YticogafoopkflaaDoorNestK
import Derived.Test.YticogafoopkflaaDoorStrs
import Derived.Deep.AppendLies
namespace Go.Proofs.YticogafoopkflaaDoor
open Go.RowKit

theorem strs6_all {w : World} {B : Nat} {v : Value} {ss : List ByteArray} (h : Strs w B v ss) : ∃ a c, v = .slice a ss.length c ∧ ∀ (k : Nat) (x : ByteArray), ss[k]? = some x → ∃ g, a = some ⟨g, 0, none⟩ ∧ ∀ u, Below w.heap.size w u → ∀ (j : Nat) (y : ByteArray), ss[j]? = some y → u.cell? ⟨g, j, none⟩ = some (.string y) := by
  rcases h.form with ⟨rfl, rfl⟩ | ⟨g, cap, rfl, _, _⟩
  · exact ⟨_, _, rfl, fun k x hx => by simp at hx⟩
  · exact ⟨_, _, rfl, fun k x hx => ⟨g, rfl, fun u hu j y hy => (h.below hu).cell j y hy⟩⟩

set_option maxRecDepth 100000 in
set_option maxHeartbeats 1000000 in
theorem lastKey_any {w : World} {g c n : Nat} {x : ByteArray} (hn : 0 < n) (hn8 : n ≤ 1048576) (hx : w.cell? ⟨g, (n - 1) * 3, none⟩ = some (.string x)) :
    Calls Tryd.prog 64 #[.slice (some ⟨g, 0, none⟩) n c] w fun e w' => e = .returned (.string x) ∧ w' = w := by
  obtain ⟨m, rfl⟩ : ∃ m, n = m + 1 := ⟨n - 1, by omega⟩
  have hm : m + 1 - 1 = m := by omega
  rw [hm] at hx
  have hgl := rw_cell_lt hx
  have h1 : ((m + 1 : Nat) : Int) - 1 = (m : Int) := by omega
  have h2 : (m : Int) < ((m + 1 : Nat) : Int) := by omega
  go_enter Tryd.func64, Tryd.ntmps64
  go_wp2
  go_ret
  exact ⟨rfl, rfl⟩

def BkRel (w : World) (ss : List ByteArray) (vb i : Value) (wr : World) : Prop :=
  ∃ (k hi : Nat) (vs : List Value), k ≤ ss.length ∧ i = .int .i64 (k : Int) ∧ NestR wr w.heap.size hi vb (accK ss k) vs ∧ (∀ j s, j < k → ss[j]? = some s → codeP s = 0) ∧ bkF (accK ss k) (ss.drop k) = bookF ss ∧ Below w.heap.size w wr

set_option maxRecDepth 100000 in
set_option maxHeartbeats 8000000 in
theorem openBook_any {w : World} {B : Nat} {vp : Value} {ss : List ByteArray} (hS : Strs w B vp ss) (hz : ∀ s ∈ ss, s.size ≤ 1048576) (hl : ss.length ≤ 1048576) {ty : TypeId} {pv : Value} (hg : ErrG w ty pv) :
    Calls Tryd.prog 34 #[vp] w fun e w' => ∃ v, e = .returned (.tuple #[v, .bool (bookF ss).isSome]) ∧ (∀ gs, bookF ss = some gs → ∃ vs, NestR w' w.heap.size w'.heap.size v gs vs) ∧ Below w.heap.size w w' := by
  obtain ⟨a, c, rfl, hq⟩ := strs6_all hS
  have HQ : Hid _ := hq
  have HZ : Hid (∀ s ∈ ss, s.size ≤ 1048576) := hz
  have HG : Hid (ErrG w ty pv) := hg
  have hgl := hg.lt
  clear hS hq hz hg
  by_cases h40 : ss.length ≤ 40
  · have n40 : ¬ (40 : Int) < (ss.length : Int) := by omega
    obtain ⟨i1, hi1, hy0, hy1, hy2⟩ := info_parts info_rwL
    have HB0 : Hid (bkF (accK ss 0) (ss.drop 0) = bookF ss) := by show _ = _; unfold bookF; rw [if_pos h40]; simp [accK]
    go_enter Tryd.func34, Tryd.ntmps34
    go_wp2_with fail
    go_loopw [4, 14] (fun vb i wr => BkRel w ss vb i wr) (fun _ i _ => ss.length - (intOf i).toNat)
    case atStart => exact ⟨0, _, [], Nat.zero_le _, rfl, NestR.nil w _, fun j s hj => by omega, HB0.out, Below.refl _ _⟩
    case round =>
      obtain ⟨k, hi, vs, hk, rfl, hN, hC, hE, hb⟩ := hrel
      by_cases hlt : k < ss.length
      · obtain ⟨s, hs⟩ : ∃ s, ss[k]? = some s := ⟨_, List.getElem?_eq_getElem hlt⟩
        obtain ⟨g, rfl, qc⟩ := HQ.out k s hs
        have c0 := qc wr hb k s hs
        have hc0 := rw_cell_lt c0
        have hlt8 : (k : Int) < (ss.length : Int) := by omega
        have RD := implRP_any s wr (HZ.out s (List.mem_of_getElem? hs)) (show ErrG wr ty pv from (hb.cell (p := ⟨0, 0, none⟩) hgl).trans HG.out)
        have hrl := readP_len s
        have hsz := HZ.out s (List.mem_of_getElem? hs)
        have HS : Hid (ss[k]? = some s) := hs
        have HN : Hid (NestR wr w.heap.size hi _ (accK ss k) vs) := hN
        have HC : Hid (∀ j s, j < k → ss[j]? = some s → codeP s = 0) := hC
        have HE : Hid (bkF (accK ss k) (ss.drop k) = bookF ss) := hE
        have HB : Hid (Below w.heap.size w wr) := hb
        have HQC : Hid _ := qc
        clear hs hN hC hE hb qc
        by_cases hcd : codeP s = 0
        · rw [hcd] at RD
          have hpos := readP_some hcd
          obtain ⟨x0, hx0⟩ : ∃ x0, (readP s)[0]? = some x0 := ⟨_, List.getElem?_eq_getElem hpos⟩
          have HX0 : Hid (begK (readP s) = x0.key) := begK_at hx0
          have HX : Hid ((readP s)[0]? = some x0) := hx0
          have HRL : Hid ((readP s).length ≤ 1048576) := by show _ ≤ _; omega
          clear hx0
          go_wp2_with fail
          refine RD.mono ?_
          rintro e w2 ⟨v2, rfl, r2, b2⟩
          obtain ⟨g2, c2, rfl, q2⟩ := rws_at r2 hpos
          have d0 : w2.cell? ⟨g2, 0, none⟩ = some (.string x0.key) := q2 0 x0 HX.out
          have hd0 := rw_cell_lt d0
          have HN2 : Hid (NestR w2 w.heap.size hi u4 (accK ss k) vs) := HN.out.below b2
          have HB2 : Hid (Below w.heap.size w w2) := HB.out.trans (b2.mono HB.out.size)
          have HR2 : Hid (Rws w2 wr.heap.size _ _) := r2
          have HBR : Hid (Below wr.heap.size wr w2) := b2
          clear RD r2 b2 q2
          by_cases hk0 : k = 0
          · subst hk0
            have HO : Hid (okNext (accK ss 0) s = true) := by show _ = _; rw [okNext_zero, hcd]; rfl
            go_wp2_with fail
            go_quiet (fail)
            have HN3 : Hid (NestR (w2.drewN nq) w.heap.size hi u4 (accK ss 0) vs) := HN2.out.below (below_drewN6 (Below.refl _ _) nq)
            have HB3 : Hid (Below w.heap.size w (w2.drewN nq)) := below_drewN6 HB2.out nq
            have hdq : (w2.drewN nq).heap.size = w2.heap.size := rfl
            have hgn : (accK ss 0).length = 0 := accK_len hk
            have hsU := HB3.out.size
            have bA := (Below.refl (w2.drewN nq).heap.size (w2.drewN nq)).alloc (Nat.le_refl _) (.cells #[.slice (some ⟨g2, 0, none⟩) (readP s).length c2] 23)
            have hrow := (HN3.out.below bA).row
            obtain ⟨a1, c1, hv1, _⟩ := HN3.out.form
            subst hv1
            have HU : Hid (Below wr.heap.size wr ((w2.drewN nq).alloc (.cells #[.slice (some ⟨g2, 0, none⟩) (readP s).length c2] 23))) := (below_drewN6 HBR.out nq).alloc HBR.out.size _
            have HX0' : Hid (Rws ((w2.drewN nq).alloc (.cells #[.slice (some ⟨g2, 0, none⟩) (readP s).length c2] 23)) wr.heap.size (.slice (some ⟨g2, 0, none⟩) (readP s).length c2) (readP s)) := (HR2.out.below (below_drewN6 (Below.refl _ _) nq)).below bA
            go_wp2_with (at_builtin; refine wpList_append_lies _ rfl _ _ 55 rfl w.heap.size 23 i1 (.slice none 0 0) 1 24 Tryd.underlying55 hi1 hy0 hy1 hy2 rfl (by decide) _ _ _ rfl hrow ⟨_, 0, none⟩ 1 1 [.slice (some ⟨g2, 0, none⟩) (readP s).length c2] rfl rfl (cell_one_new _ _ _) (fun x hx => by simp at hx; subst hx; rfl) (by omega) (by unfold maxLen; omega) (by omega) (by simp; omega) _ rfl ?_)
            intro g5 c5 u5 ho5 hg5 hgo5 hlt5
            have N5 := HN.out.push HB.out.size HU.out HX0'.out hg5 ho5
            have B5 : Below w.heap.size w u5 := Below.grown (HB3.out.trans (bA.mono HB3.out.size)) hg5 (Nat.le_trans HB3.out.size bA.size) (fun j hj => (World.ownsRow.lt hrow j hj).1)
            have NN : NestR u5 w.heap.size u5.heap.size (.slice (some ⟨g5, 0, none⟩) ((accK ss 0).length + 1) c5) (accK ss (0 + 1)) _ := accK_succ HS.out ▸ N5
            have HNN : Hid (NestR _ _ _ _ _ _) := NN
            have HB5 : Hid (Below w.heap.size w u5) := B5
            have HE5 : Hid (bkF (accK ss (0 + 1)) (ss.drop (0 + 1)) = bookF ss) := by show _ = _; rw [← HE.out, bkF_yes HS.out HO.out, accK_succ HS.out]
            have HC5 : Hid (∀ j t, j < 0 + 1 → ss[j]? = some t → codeP t = 0) := fun j t hj ht => by
              by_cases hjk : j < 0
              · exact HC.out j t hjk ht
              · have e1 : j = 0 := by omega
                subst e1
                have e2 := HS.out.symm.trans ht
                rw [← Option.some.inj e2]
                exact hcd
            clear N5 B5 NN HN HB HU HX0' hg5 ho5 hrow bA HN3 HB3 HN2 HB2 HR2 HBR HC HE
            go_wp2
            exact ⟨⟨0 + 1, _, _, by omega, by go_num, HNN.out, HC5.out, HE5.out, HB5.out⟩, by simp [intOf]; omega⟩
          · obtain ⟨j, rfl⟩ : ∃ j, k = j + 1 := ⟨k - 1, by omega⟩
            obtain ⟨y, hy⟩ : ∃ y, ss[j]? = some y := ⟨_, List.getElem?_eq_getElem (by omega)⟩
            have hyp := readP_some (HC.out j y (by omega) hy)
            have hyl : (readP y).length ≤ 1048576 := by have := readP_len y; have := HZ.out y (List.mem_of_getElem? hy); omega
            obtain ⟨vy, hvy, hI, _⟩ := HN2.out.ins j (readP y) (accK_at hy (by omega))
            obtain ⟨gy, cy, rfl, qy⟩ := rws_at hI hyp
            obtain ⟨xl, hxl⟩ : ∃ xl, (readP y)[(readP y).length - 1]? = some xl := ⟨_, List.getElem?_eq_getElem (by omega)⟩
            have dy := qy _ xl hxl
            have LK := fun n => lastKey_any (w := w2.drewN n) (c := cy) hyp hyl dy
            obtain ⟨a1, c1, hv1, fm⟩ := HN2.out.form
            obtain ⟨gb, rfl, _, _, cb, _⟩ := fm j _ hvy
            have hcb := rw_cell_lt cb
            have hj1 : (((j + 1 : Nat) : Int) - 1).toNat = j := by omega
            have hj2 : ((j + 1 : Nat) : Int) - 1 = (j : Int) := by omega
            have hgn0 : (accK ss (j + 1)).length = j + 1 := accK_len hk
            have hj3 : (j : Int) < ((accK ss (j + 1)).length : Int) := by omega
            have hpos8 : (0 : Int) < ((readP s).length : Int) := by omega
            have hon := okNext_succ (s := s) hy
            rw [hcd, HX0.out, endK_at hxl] at hon
            cases hlk : ltK xl.key x0.key
            · have HF : Hid (bookF ss = none) := by show _ = _; rw [← HE.out]; exact bkF_no HS.out (by rw [hon, hlk]; rfl)
              unfold ltK at hlk
              clear hon fm qy dy hI hvy
              subst hv1
              go_wp2_with fail
              go_quiet ((go_at_call 64; exact Calls.quiet_of_same (LK _)))
              have HB3 : Hid (Below w.heap.size w (w2.drewN nq)) := below_drewN6 HB2.out nq
              clear LK
              go_wp2
              go_ret2
              rw [HF.out]
              exact ⟨_, rfl, fun gs h => (by cases h), HB3.out⟩
            · have HO : Hid (okNext (accK ss (j + 1)) s = true) := by show _ = _; rw [hon, hlk]; rfl
              unfold ltK at hlk
              clear hon fm qy dy hI hvy
              subst hv1
              go_wp2_with fail
              go_quiet ((go_at_call 64; exact Calls.quiet_of_same (LK _)))
              clear LK
              have HN3 : Hid (NestR (w2.drewN nq) w.heap.size hi _ (accK ss (j + 1)) vs) := HN2.out.below (below_drewN6 (Below.refl _ _) nq)
              have HB3 : Hid (Below w.heap.size w (w2.drewN nq)) := below_drewN6 HB2.out nq
              have hdq : (w2.drewN nq).heap.size = w2.heap.size := rfl
              have hgn : (accK ss (j + 1)).length = j + 1 := accK_len hk
              have hsU := HB3.out.size
              have bA := (Below.refl (w2.drewN nq).heap.size (w2.drewN nq)).alloc (Nat.le_refl _) (.cells #[.slice (some ⟨g2, 0, none⟩) (readP s).length c2] 23)
              have hrow := (HN3.out.below bA).row
              rw [hgn] at hrow
              have HU : Hid (Below wr.heap.size wr ((w2.drewN nq).alloc (.cells #[.slice (some ⟨g2, 0, none⟩) (readP s).length c2] 23))) := (below_drewN6 HBR.out nq).alloc HBR.out.size _
              have HX0' : Hid (Rws ((w2.drewN nq).alloc (.cells #[.slice (some ⟨g2, 0, none⟩) (readP s).length c2] 23)) wr.heap.size (.slice (some ⟨g2, 0, none⟩) (readP s).length c2) (readP s)) := (HR2.out.below (below_drewN6 (Below.refl _ _) nq)).below bA
              go_wp2_with (at_builtin; refine wpList_append_lies _ rfl _ _ 55 rfl w.heap.size 23 i1 (.slice none 0 0) 1 24 Tryd.underlying55 hi1 hy0 hy1 hy2 rfl (by decide) _ _ _ rfl hrow ⟨_, 0, none⟩ 1 1 [.slice (some ⟨g2, 0, none⟩) (readP s).length c2] rfl rfl (cell_one_new _ _ _) (fun x hx => by simp at hx; subst hx; rfl) (by omega) (by unfold maxLen; omega) (by omega) (by simp; omega) _ rfl ?_)
              intro g5 c5 u5 ho5 hg5 hgo5 hlt5
              have N5 := HN.out.push HB.out.size HU.out HX0'.out hg5 (by rw [hgn]; exact ho5)
              rw [accK_succ HS.out, hgn] at N5
              have B5 : Below w.heap.size w u5 := Below.grown (HB3.out.trans (bA.mono HB3.out.size)) hg5 (Nat.le_trans HB3.out.size bA.size) (fun i hj => (World.ownsRow.lt hrow i hj).1)
              have NN : NestR u5 w.heap.size u5.heap.size (.slice (some ⟨g5, 0, none⟩) (j + 1 + 1) c5) (accK ss (j + 1 + 1)) _ := N5
              have HNN : Hid (NestR _ _ _ _ _ _) := NN
              have HB5 : Hid (Below w.heap.size w u5) := B5
              have HE5 : Hid (bkF (accK ss (j + 1 + 1)) (ss.drop (j + 1 + 1)) = bookF ss) := by show _ = _; rw [← HE.out, bkF_yes HS.out HO.out, accK_succ HS.out]
              have HC5 : Hid (∀ i t, i < j + 1 + 1 → ss[i]? = some t → codeP t = 0) := fun i t hj ht => by
                by_cases hjk : i < j + 1
                · exact HC.out i t hjk ht
                · have e1 : i = j + 1 := by omega
                  subst e1
                  have e2 := HS.out.symm.trans ht
                  rw [← Option.some.inj e2]
                  exact hcd
              clear N5 B5 NN HN HB HU HX0' hg5 ho5 hrow bA HN3 HB3 HN2 HB2 HR2 HBR HC HE
              go_wp2
              exact ⟨⟨j + 1 + 1, _, _, by omega, by go_num, HNN.out, HC5.out, HE5.out, HB5.out⟩, by simp [intOf]; omega⟩
        · have HF : Hid (bookF ss = none) := by show _ = _; rw [← HE.out]; exact bkF_no HS.out (by unfold okNext; rw [decide_eq_false hcd]; rfl)
          generalize codeP s = cd at *
          go_wp2_with fail
          refine RD.mono ?_
          rintro e w2 ⟨v2, rfl, r2, b2⟩
          have HB2 : Hid (Below w.heap.size w w2) := HB.out.trans (b2.mono HB.out.size)
          clear RD r2 b2
          go_wp2
          go_ret2
          rw [HF.out]
          exact ⟨_, rfl, fun gs h => (by cases h), HB2.out⟩
      · have hkz : k = ss.length := by omega
        subst hkz
        have HF : Hid (bookF ss = some (accK ss ss.length)) := by show _ = _; rw [← hE, bkF_end]
        have HN : Hid (NestR wr w.heap.size hi _ (accK ss ss.length) vs) := hN
        have HB : Hid (Below w.heap.size w wr) := hb
        clear hN hb hE hC
        go_wp2
        go_ret2
        rw [HF.out]
        exact ⟨_, rfl, fun gs h => by obtain rfl := Option.some.inj h; exact ⟨_, HN.out.high HN.out.top (Nat.le_refl _)⟩, HB.out⟩
  · have n40 : (40 : Int) < (ss.length : Int) := by omega
    have HF : Hid (bookF ss = none) := by show _ = _; unfold bookF; rw [if_neg h40]
    go_enter Tryd.func34, Tryd.ntmps34
    go_wp2
    go_ret2
    rw [HF.out]
    exact ⟨_, rfl, fun gs h => (by cases h), Below.refl _ _⟩
end Go.Proofs.YticogafoopkflaaDoor
