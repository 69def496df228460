/- Texts of mine laid together: IReadP, IBook6, IPlace6, IWith6. -/
import Derived.Test.YticogafoopkflaaDoorIRows6
import Derived.Test.YticogafoopkflaaDoorPBook6
import Derived.Test.YticogafoopkflaaDoorNestK
import Derived.Test.YticogafoopkflaaDoorStrs
import Derived.Deep.AppendLies
import Derived.Test.YticogafoopkflaaDoorPPlace6
import Derived.Test.YticogafoopkflaaDoorRwApp
import Derived.Test.YticogafoopkflaaDoorPPut6
import Derived.ArgAppend
namespace Go.Proofs.YticogafoopkflaaDoor
open Go.RowKit

theorem mark_is {s : ByteArray} (h : 3 ≤ s.size) : ((s.extract 0 2).toList == [80, 71]) = markOk s := by
  have hz : (s.extract 0 2).size = 2 := ext_size s (by omega)
  have e0 : bAt (s.extract 0 2) 0 = bAt s 0 := bAt_ext s (by omega) (by omega)
  have e1 : bAt (s.extract 0 2) 1 = bAt s 1 := bAt_ext s (by omega) (by omega)
  have hl : (s.extract 0 2).toList = [bAt s 0, bAt s 1] := by
    rw [ByteArray.toList_eq]
    have hl2 : (s.extract 0 2).data.toList.length = 2 := by rw [Array.length_toList]; exact hz
    have d0 := bAt_drop (s := s.extract 0 2) (n := 0) (by omega)
    have d1 := bAt_drop (s := s.extract 0 2) (n := 1) (by omega)
    rw [List.drop_zero] at d0
    rw [d0, d1, e0, e1]
    congr 2
    apply List.drop_eq_nil_of_le
    omega

  rw [hl]
  unfold markOk hd
  have q0 : ((bAt s 0).toNat = 80) = (bAt s 0 = 80) := propext ⟨fun e => UInt8.toNat_inj.1 e, fun e => by rw [e]; rfl⟩
  have q1 : ((bAt s 1).toNat = 71) = (bAt s 1 = 71) := propext ⟨fun e => UInt8.toNat_inj.1 e, fun e => by rw [e]; rfl⟩
  simp only [q0, q1]
  by_cases h1 : bAt s 0 = 80
  · by_cases h2 : bAt s 1 = 71
    · simp [h1, h2]
    · simp [h1, h2]
  · simp [h1]

set_option maxRecDepth 100000 in
set_option maxHeartbeats 1000000 in
theorem prefix_any (s : ByteArray) (w : World) (h : 3 ≤ s.size) (h3 : s.size ≤ 300) : Calls Tryd.prog 32 #[.string s, .string ⟨#[80, 71]⟩] w fun e w' => e = .returned (.bool (markOk s)) ∧ w' = w := by
  have P : Calls Tryd.prog 59 #[.string s, .string ⟨#[80, 71]⟩] w fun e w' => e = .returned (.bool (markOk s)) ∧ w' = w := by
    have hm := mark_is h
    have hz : (⟨#[80, 71]⟩ : ByteArray).size = 2 := rfl
    have h2 : (2 : Int) ≤ (s.size : Int) := by omega
    have HM : Hid _ := hm
    go_enter Tryd.func59, Tryd.ntmps59
    go_wp2
    go_ret
    have e := HM.out
    exact ⟨by rw [← e]; rfl, rfl⟩
  go_enter Tryd.func32, Tryd.ntmps32
  go_wp2_with fail
  refine P.mono ?_
  rintro e w1 ⟨rfl, rfl⟩
  clear P
  go_wp2
  go_ret
  exact ⟨rfl, rfl⟩

set_option maxRecDepth 100000 in
set_option maxHeartbeats 2000000 in
theorem implRP_any (s : ByteArray) (w : World) (hs : s.size ≤ 1048576) {ty : TypeId} {pv : Value} (hg : ErrG w ty pv) :
    Calls Tryd.prog 10 #[.string s] w fun e w' => ∃ v, e = .returned (.tuple #[v, .int .i64 (codeP s)]) ∧ Rws w' w.heap.size v (readP s) ∧ Below w.heap.size w w' := by
  have hnil : Hid (Rws w w.heap.size (.slice none 0 0) []) := World.ownsRow_nil _ _ _ _
  by_cases h300 : s.size ≤ 300
  · have n300 : (s.size : Int) ≤ 300 := by omega
    by_cases h3 : 3 ≤ s.size
    · have n3 : (3 : Int) ≤ (s.size : Int) := by omega
      have hlo : lenOk s = true := by unfold lenOk; rw [decide_eq_true h3, decide_eq_true h300]; rfl
      have PX := prefix_any s w h3 h300
      cases hmk : markOk s
      · have hc : codeP s = 2 := by unfold codeP; rw [hlo, hmk]; rfl
        have hr : readP s = [] := by unfold readP; rw [hlo, hmk]; rfl
        rw [hc, hr]
        rw [hmk] at PX
        clear hlo hc hr hmk
        go_enter Tryd.func10, Tryd.ntmps10
        go_wp2_with fail
        refine PX.mono ?_
        rintro e w1 ⟨rfl, rfl⟩
        clear PX
        go_wp2
        go_ret2
        exact ⟨_, rfl, hnil.out, Below.refl _ _⟩
      · have RO := rowsOf_any s w h3 h300 hg
        have hc : codeP s = if (readL s).isSome then 0 else 3 := by unfold codeP; rw [hlo, hmk]; rfl
        have hr : readP s = (readL s).getD [] := by unfold readP; rw [hlo, hmk]; rfl
        rw [hmk] at PX
        rw [hc, hr]
        clear hlo hc hr hmk
        cases hrl : readL s with
        | none =>
          rw [hrl] at RO
          clear hrl
          go_enter Tryd.func10, Tryd.ntmps10
          go_wp2_with fail
          refine PX.mono ?_
          rintro e w1 ⟨rfl, rfl⟩
          clear PX
          go_wp2_with fail
          refine RO.mono ?_
          rintro e w2 ⟨v2, rfl, _, b2⟩
          clear RO
          go_wp2
          go_ret2
          exact ⟨_, rfl, World.ownsRow_nil _ _ _ _, b2⟩
        | some l =>
          rw [hrl] at RO
          clear hrl
          go_enter Tryd.func10, Tryd.ntmps10
          go_wp2_with fail
          refine PX.mono ?_
          rintro e w1 ⟨rfl, rfl⟩
          clear PX
          go_wp2_with fail
          refine RO.mono ?_
          rintro e w2 ⟨v2, rfl, r2, b2⟩
          clear RO
          go_wp2
          go_ret2
          exact ⟨_, rfl, r2, b2⟩
    · have n3 : ¬ (3 : Int) ≤ (s.size : Int) := by omega
      have hlo : lenOk s = false := by unfold lenOk; rw [decide_eq_false h3]; rfl
      have hc : codeP s = 1 := by unfold codeP; rw [hlo]; rfl
      have hr : readP s = [] := by unfold readP; rw [hlo]; rfl
      rw [hc, hr]
      clear hlo hc hr
      go_enter Tryd.func10, Tryd.ntmps10
      go_wp2
      go_ret2
      exact ⟨_, rfl, hnil.out, Below.refl _ _⟩
  · have n300 : ¬ (s.size : Int) ≤ 300 := by omega
    have hlo : lenOk s = false := by unfold lenOk; rw [decide_eq_false h300, Bool.and_false]
    have hc : codeP s = 1 := by unfold codeP; rw [hlo]; rfl
    have hr : readP s = [] := by unfold readP; rw [hlo]; rfl
    rw [hc, hr]
    clear hlo hc hr
    go_enter Tryd.func10, Tryd.ntmps10
    go_wp2
    go_ret2
    exact ⟨_, rfl, hnil.out, Below.refl _ _⟩
end Go.Proofs.YticogafoopkflaaDoor

namespace Go.Proofs.YticogafoopkflaaDoor
open Go.RowKit

theorem strs6_all {w : World} {B : Nat} {v : Value} {ss : List ByteArray} (h : Strs w B v ss) : ∃ a c, v = .slice a ss.length c ∧ ∀ (k : Nat) (x : ByteArray), ss[k]? = some x → ∃ g, a = some ⟨g, 0, none⟩ ∧ ∀ u, Below w.heap.size w u → ∀ (j : Nat) (y : ByteArray), ss[j]? = some y → u.cell? ⟨g, j, none⟩ = some (.string y) := by
  rcases h.form with ⟨rfl, rfl⟩ | ⟨g, cap, rfl, _, _⟩
  · exact ⟨_, _, rfl, fun k x hx => by simp at hx⟩
  · exact ⟨_, _, rfl, fun k x hx => ⟨g, rfl, fun u hu j y hy => (h.below hu).cell j y hy⟩⟩

set_option maxRecDepth 100000 in
set_option maxHeartbeats 1000000 in
theorem lastKey_any {w : World} {g c n : Nat} {x : ByteArray} (hn : 0 < n) (hn8 : n ≤ 1048576) (hx : w.cell? ⟨g, (n - 1) * 3, none⟩ = some (.string x)) :
    Calls Tryd.prog 64 #[.slice (some ⟨g, 0, none⟩) n c] w fun e w' => e = .returned (.string x) ∧ w' = w := by
  obtain ⟨m, rfl⟩ : ∃ m, n = m + 1 := ⟨n - 1, by omega⟩
  have hm : m + 1 - 1 = m := by omega
  rw [hm] at hx
  have hgl := rw_cell_lt hx
  have h1 : ((m + 1 : Nat) : Int) - 1 = (m : Int) := by omega
  have h2 : (m : Int) < ((m + 1 : Nat) : Int) := by omega
  go_enter Tryd.func64, Tryd.ntmps64
  go_wp2
  go_ret
  exact ⟨rfl, rfl⟩

def BkRel (w : World) (ss : List ByteArray) (vb i : Value) (wr : World) : Prop :=
  ∃ (k hi : Nat) (vs : List Value), k ≤ ss.length ∧ i = .int .i64 (k : Int) ∧ NestR wr w.heap.size hi vb (accK ss k) vs ∧ (∀ j s, j < k → ss[j]? = some s → codeP s = 0) ∧ bkF (accK ss k) (ss.drop k) = bookF ss ∧ Below w.heap.size w wr

set_option maxRecDepth 100000 in
set_option maxHeartbeats 8000000 in
theorem openBook_any {w : World} {B : Nat} {vp : Value} {ss : List ByteArray} (hS : Strs w B vp ss) (hz : ∀ s ∈ ss, s.size ≤ 1048576) (hl : ss.length ≤ 1048576) {ty : TypeId} {pv : Value} (hg : ErrG w ty pv) :
    Calls Tryd.prog 34 #[vp] w fun e w' => ∃ v, e = .returned (.tuple #[v, .bool (bookF ss).isSome]) ∧ (∀ gs, bookF ss = some gs → ∃ vs, NestR w' w.heap.size w'.heap.size v gs vs) ∧ Below w.heap.size w w' := by
  obtain ⟨a, c, rfl, hq⟩ := strs6_all hS
  have HQ : Hid _ := hq
  have HZ : Hid (∀ s ∈ ss, s.size ≤ 1048576) := hz
  have HG : Hid (ErrG w ty pv) := hg
  have hgl := hg.lt
  clear hS hq hz hg
  by_cases h40 : ss.length ≤ 40
  · have n40 : ¬ (40 : Int) < (ss.length : Int) := by omega
    obtain ⟨i1, hi1, hy0, hy1, hy2⟩ := info_parts info_rwL
    have HB0 : Hid (bkF (accK ss 0) (ss.drop 0) = bookF ss) := by show _ = _; unfold bookF; rw [if_pos h40]; simp [accK]
    go_enter Tryd.func34, Tryd.ntmps34
    go_wp2_with fail
    go_loopw [4, 14] (fun vb i wr => BkRel w ss vb i wr) (fun _ i _ => ss.length - (intOf i).toNat)
    case atStart => exact ⟨0, _, [], Nat.zero_le _, rfl, NestR.nil w _, fun j s hj => by omega, HB0.out, Below.refl _ _⟩
    case round =>
      obtain ⟨k, hi, vs, hk, rfl, hN, hC, hE, hb⟩ := hrel
      by_cases hlt : k < ss.length
      · obtain ⟨s, hs⟩ : ∃ s, ss[k]? = some s := ⟨_, List.getElem?_eq_getElem hlt⟩
        obtain ⟨g, rfl, qc⟩ := HQ.out k s hs
        have c0 := qc wr hb k s hs
        have hc0 := rw_cell_lt c0
        have hlt8 : (k : Int) < (ss.length : Int) := by omega
        have RD := implRP_any s wr (HZ.out s (List.mem_of_getElem? hs)) (show ErrG wr ty pv from (hb.cell (p := ⟨0, 0, none⟩) hgl).trans HG.out)
        have hrl := readP_len s
        have hsz := HZ.out s (List.mem_of_getElem? hs)
        have HS : Hid (ss[k]? = some s) := hs
        have HN : Hid (NestR wr w.heap.size hi _ (accK ss k) vs) := hN
        have HC : Hid (∀ j s, j < k → ss[j]? = some s → codeP s = 0) := hC
        have HE : Hid (bkF (accK ss k) (ss.drop k) = bookF ss) := hE
        have HB : Hid (Below w.heap.size w wr) := hb
        have HQC : Hid _ := qc
        clear hs hN hC hE hb qc
        by_cases hcd : codeP s = 0
        · rw [hcd] at RD
          have hpos := readP_some hcd
          obtain ⟨x0, hx0⟩ : ∃ x0, (readP s)[0]? = some x0 := ⟨_, List.getElem?_eq_getElem hpos⟩
          have HX0 : Hid (begK (readP s) = x0.key) := begK_at hx0
          have HX : Hid ((readP s)[0]? = some x0) := hx0
          have HRL : Hid ((readP s).length ≤ 1048576) := by show _ ≤ _; omega
          clear hx0
          go_wp2_with fail
          refine RD.mono ?_
          rintro e w2 ⟨v2, rfl, r2, b2⟩
          obtain ⟨g2, c2, rfl, q2⟩ := rws_at r2 hpos
          have d0 : w2.cell? ⟨g2, 0, none⟩ = some (.string x0.key) := q2 0 x0 HX.out
          have hd0 := rw_cell_lt d0
          have HN2 : Hid (NestR w2 w.heap.size hi u4 (accK ss k) vs) := HN.out.below b2
          have HB2 : Hid (Below w.heap.size w w2) := HB.out.trans (b2.mono HB.out.size)
          have HR2 : Hid (Rws w2 wr.heap.size _ _) := r2
          have HBR : Hid (Below wr.heap.size wr w2) := b2
          clear RD r2 b2 q2
          by_cases hk0 : k = 0
          · subst hk0
            have HO : Hid (okNext (accK ss 0) s = true) := by show _ = _; rw [okNext_zero, hcd]; rfl
            go_wp2_with fail
            go_quiet (fail)
            have HN3 : Hid (NestR (w2.drewN nq) w.heap.size hi u4 (accK ss 0) vs) := HN2.out.below (below_drewN6 (Below.refl _ _) nq)
            have HB3 : Hid (Below w.heap.size w (w2.drewN nq)) := below_drewN6 HB2.out nq
            have hdq : (w2.drewN nq).heap.size = w2.heap.size := rfl
            have hgn : (accK ss 0).length = 0 := accK_len hk
            have hsU := HB3.out.size
            have bA := (Below.refl (w2.drewN nq).heap.size (w2.drewN nq)).alloc (Nat.le_refl _) (.cells #[.slice (some ⟨g2, 0, none⟩) (readP s).length c2] 23)
            have hrow := (HN3.out.below bA).row
            obtain ⟨a1, c1, hv1, _⟩ := HN3.out.form
            subst hv1
            have HU : Hid (Below wr.heap.size wr ((w2.drewN nq).alloc (.cells #[.slice (some ⟨g2, 0, none⟩) (readP s).length c2] 23))) := (below_drewN6 HBR.out nq).alloc HBR.out.size _
            have HX0' : Hid (Rws ((w2.drewN nq).alloc (.cells #[.slice (some ⟨g2, 0, none⟩) (readP s).length c2] 23)) wr.heap.size (.slice (some ⟨g2, 0, none⟩) (readP s).length c2) (readP s)) := (HR2.out.below (below_drewN6 (Below.refl _ _) nq)).below bA
            go_wp2_with (at_builtin; refine wpList_append_lies _ rfl _ _ 55 rfl w.heap.size 23 i1 (.slice none 0 0) 1 24 Tryd.underlying55 hi1 hy0 hy1 hy2 rfl (by decide) _ _ _ rfl hrow ⟨_, 0, none⟩ 1 1 [.slice (some ⟨g2, 0, none⟩) (readP s).length c2] rfl rfl (cell_one_new _ _ _) (fun x hx => by simp at hx; subst hx; rfl) (by omega) (by unfold maxLen; omega) (by omega) (by simp; omega) _ rfl ?_)
            intro g5 c5 u5 ho5 hg5 hgo5 hlt5
            have N5 := HN.out.push HB.out.size HU.out HX0'.out hg5 ho5
            have B5 : Below w.heap.size w u5 := Below.grown (HB3.out.trans (bA.mono HB3.out.size)) hg5 (Nat.le_trans HB3.out.size bA.size) (fun j hj => (World.ownsRow.lt hrow j hj).1)
            have NN : NestR u5 w.heap.size u5.heap.size (.slice (some ⟨g5, 0, none⟩) ((accK ss 0).length + 1) c5) (accK ss (0 + 1)) _ := accK_succ HS.out ▸ N5
            have HNN : Hid (NestR _ _ _ _ _ _) := NN
            have HB5 : Hid (Below w.heap.size w u5) := B5
            have HE5 : Hid (bkF (accK ss (0 + 1)) (ss.drop (0 + 1)) = bookF ss) := by show _ = _; rw [← HE.out, bkF_yes HS.out HO.out, accK_succ HS.out]
            have HC5 : Hid (∀ j t, j < 0 + 1 → ss[j]? = some t → codeP t = 0) := fun j t hj ht => by
              by_cases hjk : j < 0
              · exact HC.out j t hjk ht
              · have e1 : j = 0 := by omega
                subst e1
                have e2 := HS.out.symm.trans ht
                rw [← Option.some.inj e2]
                exact hcd
            clear N5 B5 NN HN HB HU HX0' hg5 ho5 hrow bA HN3 HB3 HN2 HB2 HR2 HBR HC HE
            go_wp2
            exact ⟨⟨0 + 1, _, _, by omega, by go_num, HNN.out, HC5.out, HE5.out, HB5.out⟩, by simp [intOf]; omega⟩
          · obtain ⟨j, rfl⟩ : ∃ j, k = j + 1 := ⟨k - 1, by omega⟩
            obtain ⟨y, hy⟩ : ∃ y, ss[j]? = some y := ⟨_, List.getElem?_eq_getElem (by omega)⟩
            have hyp := readP_some (HC.out j y (by omega) hy)
            have hyl : (readP y).length ≤ 1048576 := by have := readP_len y; have := HZ.out y (List.mem_of_getElem? hy); omega
            obtain ⟨vy, hvy, hI, _⟩ := HN2.out.ins j (readP y) (accK_at hy (by omega))
            obtain ⟨gy, cy, rfl, qy⟩ := rws_at hI hyp
            obtain ⟨xl, hxl⟩ : ∃ xl, (readP y)[(readP y).length - 1]? = some xl := ⟨_, List.getElem?_eq_getElem (by omega)⟩
            have dy := qy _ xl hxl
            have LK := fun n => lastKey_any (w := w2.drewN n) (c := cy) hyp hyl dy
            obtain ⟨a1, c1, hv1, fm⟩ := HN2.out.form
            obtain ⟨gb, rfl, _, _, cb, _⟩ := fm j _ hvy
            have hcb := rw_cell_lt cb
            have hj1 : (((j + 1 : Nat) : Int) - 1).toNat = j := by omega
            have hj2 : ((j + 1 : Nat) : Int) - 1 = (j : Int) := by omega
            have hgn0 : (accK ss (j + 1)).length = j + 1 := accK_len hk
            have hj3 : (j : Int) < ((accK ss (j + 1)).length : Int) := by omega
            have hpos8 : (0 : Int) < ((readP s).length : Int) := by omega
            have hon := okNext_succ (s := s) hy
            rw [hcd, HX0.out, endK_at hxl] at hon
            cases hlk : ltK xl.key x0.key
            · have HF : Hid (bookF ss = none) := by show _ = _; rw [← HE.out]; exact bkF_no HS.out (by rw [hon, hlk]; rfl)
              unfold ltK at hlk
              clear hon fm qy dy hI hvy
              subst hv1
              go_wp2_with fail
              go_quiet ((go_at_call 64; exact Calls.quiet_of_same (LK _)))
              have HB3 : Hid (Below w.heap.size w (w2.drewN nq)) := below_drewN6 HB2.out nq
              clear LK
              go_wp2
              go_ret2
              rw [HF.out]
              exact ⟨_, rfl, fun gs h => (by cases h), HB3.out⟩
            · have HO : Hid (okNext (accK ss (j + 1)) s = true) := by show _ = _; rw [hon, hlk]; rfl
              unfold ltK at hlk
              clear hon fm qy dy hI hvy
              subst hv1
              go_wp2_with fail
              go_quiet ((go_at_call 64; exact Calls.quiet_of_same (LK _)))
              clear LK
              have HN3 : Hid (NestR (w2.drewN nq) w.heap.size hi _ (accK ss (j + 1)) vs) := HN2.out.below (below_drewN6 (Below.refl _ _) nq)
              have HB3 : Hid (Below w.heap.size w (w2.drewN nq)) := below_drewN6 HB2.out nq
              have hdq : (w2.drewN nq).heap.size = w2.heap.size := rfl
              have hgn : (accK ss (j + 1)).length = j + 1 := accK_len hk
              have hsU := HB3.out.size
              have bA := (Below.refl (w2.drewN nq).heap.size (w2.drewN nq)).alloc (Nat.le_refl _) (.cells #[.slice (some ⟨g2, 0, none⟩) (readP s).length c2] 23)
              have hrow := (HN3.out.below bA).row
              rw [hgn] at hrow
              have HU : Hid (Below wr.heap.size wr ((w2.drewN nq).alloc (.cells #[.slice (some ⟨g2, 0, none⟩) (readP s).length c2] 23))) := (below_drewN6 HBR.out nq).alloc HBR.out.size _
              have HX0' : Hid (Rws ((w2.drewN nq).alloc (.cells #[.slice (some ⟨g2, 0, none⟩) (readP s).length c2] 23)) wr.heap.size (.slice (some ⟨g2, 0, none⟩) (readP s).length c2) (readP s)) := (HR2.out.below (below_drewN6 (Below.refl _ _) nq)).below bA
              go_wp2_with (at_builtin; refine wpList_append_lies _ rfl _ _ 55 rfl w.heap.size 23 i1 (.slice none 0 0) 1 24 Tryd.underlying55 hi1 hy0 hy1 hy2 rfl (by decide) _ _ _ rfl hrow ⟨_, 0, none⟩ 1 1 [.slice (some ⟨g2, 0, none⟩) (readP s).length c2] rfl rfl (cell_one_new _ _ _) (fun x hx => by simp at hx; subst hx; rfl) (by omega) (by unfold maxLen; omega) (by omega) (by simp; omega) _ rfl ?_)
              intro g5 c5 u5 ho5 hg5 hgo5 hlt5
              have N5 := HN.out.push HB.out.size HU.out HX0'.out hg5 (by rw [hgn]; exact ho5)
              rw [accK_succ HS.out, hgn] at N5
              have B5 : Below w.heap.size w u5 := Below.grown (HB3.out.trans (bA.mono HB3.out.size)) hg5 (Nat.le_trans HB3.out.size bA.size) (fun i hj => (World.ownsRow.lt hrow i hj).1)
              have NN : NestR u5 w.heap.size u5.heap.size (.slice (some ⟨g5, 0, none⟩) (j + 1 + 1) c5) (accK ss (j + 1 + 1)) _ := N5
              have HNN : Hid (NestR _ _ _ _ _ _) := NN
              have HB5 : Hid (Below w.heap.size w u5) := B5
              have HE5 : Hid (bkF (accK ss (j + 1 + 1)) (ss.drop (j + 1 + 1)) = bookF ss) := by show _ = _; rw [← HE.out, bkF_yes HS.out HO.out, accK_succ HS.out]
              have HC5 : Hid (∀ i t, i < j + 1 + 1 → ss[i]? = some t → codeP t = 0) := fun i t hj ht => by
                by_cases hjk : i < j + 1
                · exact HC.out i t hjk ht
                · have e1 : i = j + 1 := by omega
                  subst e1
                  have e2 := HS.out.symm.trans ht
                  rw [← Option.some.inj e2]
                  exact hcd
              clear N5 B5 NN HN HB HU HX0' hg5 ho5 hrow bA HN3 HB3 HN2 HB2 HR2 HBR HC HE
              go_wp2
              exact ⟨⟨j + 1 + 1, _, _, by omega, by go_num, HNN.out, HC5.out, HE5.out, HB5.out⟩, by simp [intOf]; omega⟩
        · have HF : Hid (bookF ss = none) := by show _ = _; rw [← HE.out]; exact bkF_no HS.out (by unfold okNext; rw [decide_eq_false hcd]; rfl)
          generalize codeP s = cd at *
          go_wp2_with fail
          refine RD.mono ?_
          rintro e w2 ⟨v2, rfl, r2, b2⟩
          have HB2 : Hid (Below w.heap.size w w2) := HB.out.trans (b2.mono HB.out.size)
          clear RD r2 b2
          go_wp2
          go_ret2
          rw [HF.out]
          exact ⟨_, rfl, fun gs h => (by cases h), HB2.out⟩
      · have hkz : k = ss.length := by omega
        subst hkz
        have HF : Hid (bookF ss = some (accK ss ss.length)) := by show _ = _; rw [← hE, bkF_end]
        have HN : Hid (NestR wr w.heap.size hi _ (accK ss ss.length) vs) := hN
        have HB : Hid (Below w.heap.size w wr) := hb
        clear hN hb hE hC
        go_wp2
        go_ret2
        rw [HF.out]
        exact ⟨_, rfl, fun gs h => by obtain rfl := Option.some.inj h; exact ⟨_, HN.out.high HN.out.top (Nat.le_refl _)⟩, HB.out⟩
  · have n40 : (40 : Int) < (ss.length : Int) := by omega
    have HF : Hid (bookF ss = none) := by show _ = _; unfold bookF; rw [if_neg h40]
    go_enter Tryd.func34, Tryd.ntmps34
    go_wp2
    go_ret2
    rw [HF.out]
    exact ⟨_, rfl, fun gs h => (by cases h), Below.refl _ _⟩
end Go.Proofs.YticogafoopkflaaDoor

namespace Go.Proofs.YticogafoopkflaaDoor
open Go.RowKit

def BsRel (w : World) (l : List Rw) (key : ByteArray) (vi vj : Value) (wr : World) : Prop :=
  ∃ i j : Nat, i ≤ j ∧ j ≤ l.length ∧ vi = .int .i64 (i : Int) ∧ vj = .int .i64 (j : Int) ∧ bsF l key i j = placeF l key ∧ Below w.heap.size w wr

set_option maxRecDepth 100000 in
set_option maxHeartbeats 4000000 in
theorem bsFunc_any {w : World} {a : Option Addr} {c : Nat} {l : List Rw} (key : ByteArray) (hS : SlRw w a l) (hl : l.length ≤ 1048576) :
    Calls Tryd.prog 65 #[.slice a l.length c, .string key, .func (Fn.func 66) #[] #[]] w fun e w' => e = .returned (.tuple #[.int .i64 (placeF l key : Int), .bool (thereF l key)]) ∧ Below w.heap.size w w' := by
  have HS : Hid (SlRw w a l) := hS
  obtain ⟨R, HR⟩ : ∃ R, Hid (placeF l key = R) := ⟨_, rfl⟩
  obtain ⟨T, HT⟩ : ∃ T, Hid (thereF l key = T) := ⟨_, rfl⟩
  rw [HR.out, HT.out]
  clear hS
  go_enter Tryd.func65, Tryd.ntmps65
  go_wp2_with fail
  go_loopw [9, 10] (fun vi vj wr => BsRel w l key vi vj wr) (fun vi vj _ => (intOf vj).toNat - (intOf vi).toNat)
  case atStart => exact ⟨0, l.length, by omega, by omega, rfl, rfl, rfl, Below.refl _ _⟩
  case round =>
    obtain ⟨i, j, q1, q2, rfl, rfl, hE, hb⟩ := hrel
    have HE : Hid _ := hE
    have HB : Hid (Below w.heap.size w wr) := hb
    by_cases hlt : i < j
    · have hlt8 : (i : Int) < (j : Int) := by omega
      obtain ⟨m, HM⟩ : ∃ m, Hid ((i + j) / 2 = m) := ⟨_, rfl⟩
      have hm := HM.out
      have hm1 : i ≤ m := by omega
      have hm2 : m < j := by omega
      have hm8 : (m : Int) < (l.length : Int) := by omega
      obtain ⟨x, hx⟩ : ∃ x, l[m]? = some x := ⟨_, List.getElem?_eq_getElem (by omega)⟩
      have hxa : rwAt l ((i + j) / 2) = x := by rw [hm]; unfold rwAt; rw [hx]; rfl
      rcases HS.out.below hb (Nat.le_refl _) with h0 | ⟨b, o, rfl, hC⟩
      · rw [h0] at hx; simp at hx
      obtain ⟨a0, a1, a2⟩ := hC m x hx
      have hbl := rw_cell_lt a0
      have PC := placeCmp_any x key wr
      have hw1 : IntKind.wrap .u64 ((i : Int) + (j : Int)) = (i : Int) + (j : Int) := by
        show _ = _
        unfold IntKind.wrap
        simp [IntKind.signed, IntKind.bits]
        omega
      clear hC hx hE hb
      by_cases hk : cmpK x.key key < 0
      · have HE2 : Hid (bsF l key (m + 1) j = placeF l key) := by show _ = _; rw [← HE.out, bsF_up hlt (by rw [hxa]; exact hk), HM.out]
        clear hxa HE HM
        generalize cmpK x.key key = cv at *
        go_wp2_with fail
        refine PC.mono ?_
        rintro e w2 ⟨rfl, b2⟩
        have HB2 : Hid (Below w.heap.size w w2) := HB.out.trans (b2.mono HB.out.size)
        clear PC b2 HB
        go_wp2
        exact ⟨⟨m + 1, j, by omega, by omega, congrArg (Value.int IntKind.i64) (by omega), rfl, HE2.out, HB2.out⟩, by simp [intOf]; omega⟩
      · have HE2 : Hid (bsF l key i m = placeF l key) := by show _ = _; rw [← HE.out, bsF_down hlt (by rw [hxa]; exact hk), HM.out]
        clear hxa HE HM
        generalize cmpK x.key key = cv at *
        go_wp2_with fail
        refine PC.mono ?_
        rintro e w2 ⟨rfl, b2⟩
        have HB2 : Hid (Below w.heap.size w w2) := HB.out.trans (b2.mono HB.out.size)
        clear PC b2 HB
        go_wp2
        exact ⟨⟨i, m, by omega, by omega, rfl, congrArg (Value.int IntKind.i64) (by omega), HE2.out, HB2.out⟩, by simp [intOf]; omega⟩
    · have hlt8 : ¬ (i : Int) < (j : Int) := by omega
      have HRi : Hid (R = i) := by show _ = _; rw [← HR.out, ← HE.out, bsF_end hlt]
      by_cases hil : i < l.length
      · have hil8 : (i : Int) < (l.length : Int) := by omega
        obtain ⟨x, hx⟩ : ∃ x, l[i]? = some x := ⟨_, List.getElem?_eq_getElem hil⟩
        have hxa : rwAt l i = x := by unfold rwAt; rw [hx]; rfl
        have HTi : Hid (T = decide (cmpK x.key key = 0)) := by show _ = _; rw [← HT.out]; unfold thereF; rw [HR.out, HRi.out, hxa, decide_eq_true hil, Bool.true_and]
        rcases HS.out.below hb (Nat.le_refl _) with h0 | ⟨b, o, rfl, hC⟩
        · rw [h0] at hx; simp at hx
        obtain ⟨a0, a1, a2⟩ := hC i x hx
        have hbl := rw_cell_lt a0
        have PC := placeCmp_any x key wr
        clear hC hx hE hb HE hxa
        by_cases hk : cmpK x.key key = 0
        · have HT2 : Hid (T = true) := by show _ = _; rw [HTi.out, decide_eq_true hk]
          clear HTi
          generalize cmpK x.key key = cv at *
          go_wp2_with fail
          refine PC.mono ?_
          rintro e w2 ⟨rfl, b2⟩
          have HB2 : Hid (Below w.heap.size w w2) := HB.out.trans (b2.mono HB.out.size)
          clear PC b2 HB
          go_wp2
          go_ret2
          rw [HRi.out, HT2.out]
          exact ⟨rfl, HB2.out⟩
        · have HT2 : Hid (T = false) := by show _ = _; rw [HTi.out, decide_eq_false hk]
          clear HTi
          generalize cmpK x.key key = cv at *
          go_wp2_with fail
          refine PC.mono ?_
          rintro e w2 ⟨rfl, b2⟩
          have HB2 : Hid (Below w.heap.size w w2) := HB.out.trans (b2.mono HB.out.size)
          clear PC b2 HB
          go_wp2
          go_ret2
          rw [HRi.out, HT2.out]
          exact ⟨by simp [hk], HB2.out⟩
      · have hil8 : ¬ (i : Int) < (l.length : Int) := by omega
        have HT2 : Hid (T = false) := by show _ = _; rw [← HT.out]; unfold thereF; rw [HR.out, HRi.out, decide_eq_false hil]; rfl
        clear hE HE
        go_wp2
        go_ret2
        rw [HRi.out, HT2.out]
        exact ⟨rfl, hb⟩

set_option maxRecDepth 100000 in
set_option maxHeartbeats 1000000 in
theorem placeOf_any {w : World} {a : Option Addr} {c : Nat} {l : List Rw} (key : ByteArray) (hS : SlRw w a l) (hl : l.length ≤ 1048576) :
    Calls Tryd.prog 36 #[.slice a l.length c, .string key] w fun e w' => e = .returned (.tuple #[.int .i64 (placeF l key : Int), .bool (thereF l key)]) ∧ Below w.heap.size w w' := by
  have BS := bsFunc_any (c := c) key hS hl
  generalize placeF l key = R at *
  generalize thereF l key = T at *
  clear hS
  go_enter Tryd.func36, Tryd.ntmps36
  go_wp2_with fail
  refine BS.mono ?_
  rintro e w2 ⟨rfl, b2⟩
  clear BS
  go_wp2
  go_ret2
  exact ⟨rfl, b2⟩
end Go.Proofs.YticogafoopkflaaDoor

namespace Go.Proofs.YticogafoopkflaaDoor
open Go.RowKit

/-- Rows put behind a slice that is full: it is made anew. -/
theorem step_append_full {w : World} {ops : Array Oper} {o : Oper} {a : Act} {K : Act → World → Prop} {Q : Exit → Act → World → Prop} {E : Prop} (hgd : o.guard = none) (s x : Operand)
    (ho : o.op = .call { callee := .builtin .append, args := #[s, x], argTypes := #[23, 23] }) (b n : Nat) (off : Nat) (vx : Value) (l l' : List Rw) (hn : n = l.length) (hs : a.eval s = .slice (some ⟨b, off, none⟩) n n) (hx : a.eval x = vx)
    (hS : SlRw w (some ⟨b, off, none⟩) l) (hR : SlV w vx l') (h0 : 0 < l'.length) (h63 : l.length + l'.length ≤ 1048576) (h : ∀ v' w', Rws w' w.heap.size v' (l ++ l') → w.grownBy w' none → K (a.put o.dst v') w') :
    if Region.wanted o (yielded ops a.tmps) = true then Oper.wp Tryd.prog o a w K Q else E := by
  rw [if_pos (by simp [Region.wanted, hgd])]
  subst hn
  obtain ⟨i0, hi, hzz, hz1, hz2⟩ := info_parts info_rwA
  obtain ⟨ax, cx, hv, hR⟩ := hR
  rcases hR with rfl | ⟨b', off', rfl, hE⟩
  · simp at h0
  have holds : ∀ j u, (rwAll l)[j]? = some u → w.cell? ((⟨b, off, none⟩ : Addr).add j) = some u := by
    rcases hS with rfl | ⟨b2, o2, hb, hE2⟩
    · intro j u hj; simp [rwAll] at hj
    · cases hb
      exact sl_cells hE2
  obtain ⟨v', w', hrun, r1, r2⟩ := run_append_arg_grows (P := Tryd.prog) w 23 o.type 32 i0 _ 3 48 Tryd.underlying23 hi hzz hz1 hz2 rfl (by decide) ⟨b, off, none⟩ l.length l.length (rwAll l) (rwAll_len l) holds ⟨b', off', none⟩ l'.length cx (rwAll l') (rwAll_len l') (sl_cells hE) (by omega) (by unfold maxLen; omega) (by omega)
  refine Go.Lib.wp_append_run w s x 23 23 ho _ _ hs (hx.trans hv) _ _ hrun ?_
  refine h _ _ ?_ r2
  unfold Rws
  rw [List.length_append, rwAll_append]
  exact r1

set_option maxRecDepth 100000 in
set_option maxHeartbeats 8000000 in
theorem withRow_any {w : World} {al : Option Addr} {l : List Rw} {cl : Nat} (x : Rw) (hS : SlRw w al l) (h0 : 0 < l.length) (hlc : l.length ≤ cl) (hc : cl ≤ 9223372036854775807) (hl9 : l.length ≤ 1000000) (hr : Rise l) :
    Calls Tryd.prog 44 #[.slice al l.length cl, .agg #[.string x.key, .string x.text, .string x.val]] w fun e w' => ∃ v, e = .returned v ∧ Rws w' w.heap.size v (insR l x) ∧ Below w.heap.size w w' := by
  obtain ⟨b, o, rfl⟩ : ∃ b o, al = some ⟨b, o, none⟩ := by
    rcases hS with h | ⟨b, o, h, _⟩
    · rw [h] at h0; simp at h0
    · exact ⟨b, o, h⟩
  have bA := (Below.refl w.heap.size w).alloc (Nat.le_refl _) (.cells #[.string x.key, .string x.text, .string x.val] 32)
  have PL := placeOf_any (c := cl) x.key (hS.below bA (Nat.le_refl _)) (by omega)
  have HX : Hid (BoxR6 (w.alloc (.cells #[.string x.key, .string x.text, .string x.val] 32)) w.heap.size x) := box_new6 w x
  have HBA : Hid (Below _ _ _) := bA
  have HS : Hid (SlRw w (some ⟨b, o, none⟩) l) := hS
  have hpl := (placeF_is x.key hr).1
  obtain ⟨R, HR⟩ : ∃ R, Hid (insR l x = R) := ⟨_, rfl⟩
  rw [HR.out]
  have HRE : Hid (R = l.take (placeF l x.key) ++ ([x] ++ l.drop (if thereF l x.key then placeF l x.key + 1 else placeF l x.key))) := by show _ = _; rw [← HR.out]; rfl
  have htt : thereF l x.key = true → placeF l x.key < l.length := fun h => (rowIn_there hr h).2
  clear hS bA hr HR
  generalize placeF l x.key = p at *
  have hp8 : (p : Int) ≤ (cl : Int) := by omega
  have hp9 : (p : Int) ≤ (l.length : Int) := by omega
  have htl : (l.take p).length = p := by rw [List.length_take]; omega
  have HTL : Hid ((l.take p).length = p) := htl
  clear htl
  cases hth : thereF l x.key
  · rw [hth] at PL HRE
    simp only [Bool.false_eq_true, if_false] at HRE
    clear htt hth
    by_cases hcp : cl = p
    · subst hcp
      have HDL : Hid ((l.drop cl).length = 0) := by show _ = _; rw [List.length_drop]; omega
      have HSD : Hid (SlRw w (some ⟨b, o, none⟩) (l.drop cl)) := .inl (List.drop_eq_nil_of_le (by omega))
      have hl0 : l.length - cl = 0 := by omega
      go_enter Tryd.func44, Tryd.ntmps44
      go_wp2_with fail
      refine PL.mono ?_
      rintro e w2 ⟨rfl, b2⟩
      have x2 := HX.out.below b2
      obtain ⟨d0, d1, d2⟩ := x2.cells
      have hx2 := x2.lt
      have HB2 : Hid (Below w.heap.size w w2) := HBA.out.trans (b2.mono HBA.out.size)
      have bB : Below w2.heap.size w2 (w2.alloc (.cells #[.string x.key, .string x.text, .string x.val] 32)) := (Below.refl _ _).alloc (Nat.le_refl _) _
      have S0 : Hid (SlRw (w2.alloc (.cells #[.string x.key, .string x.text, .string x.val] 32)) (some ⟨b, o, none⟩) (l.take cl)) := ((HS.out.below HB2.out (Nat.le_refl _)).take cl).below bB (Nat.le_refl _)
      have X0 : Hid (SlV (w2.alloc (.cells #[.string x.key, .string x.text, .string x.val] 32)) (.slice (some ⟨w2.heap.size, 0, none⟩) 1 1) [x]) := (rws_lit1 w2 _ w2.heap.size x rfl (Nat.le_refl _)).slV
      have VB : Hid (∀ u, Below w.heap.size w u → SlV u (.slice (some ⟨b, o, none⟩) 0 0) (l.drop cl)) := fun u hu => ⟨_, _, by rw [HDL.out], HSD.out.below hu (Nat.le_refl _)⟩
      have hw2 := HB2.out.size
      clear PL b2 x2 HX HBA
      go_upto_region 5 with fail
      go_cut [4] from 5 to 31 (fun v4 wx => Rws wx w.heap.size v4 R ∧ Below w.heap.size w wx)
      case first =>
        go_region_law (first
          | (refine step_append_full rfl (.tmp 26) (.tmp 28) rfl b cl o (.slice (some ⟨w2.heap.size, 0, none⟩) 1 1) (l.take cl) [x] HTL.out.symm rfl rfl (slRw_heap S0.out rfl) (slV_heap X0.out rfl) (by simp) (by rw [HTL.out]; simp; omega) ?_; intro v6 w6 i6 g6; have b6 : Below w.heap.size w w6 := Below.grown (by repeat (first | with_reducible exact (HB2.out.trans (bB.mono HB2.out.size)) | with_reducible refine Below.drew ?_)) g6 (by simp; omega) (fun g e => by cases e); have j6 := rws_low6 i6 (show w.heap.size ≤ _ by simp; omega); have hz6 := b6.size; clear g6 i6)
          | (refine step_append_rws rfl (.tmp 29) (.tmp 30) rfl w.heap.size v6 _ (l.take cl ++ [x]) (l.drop cl) rfl rfl (rws_heap j6 rfl) (slV_heap (VB.out _ b6) rfl) (by simp; omega) (by first | omega | (simp; omega)) ?_; intro v7 w7 i7 g7; have b7 : Below w.heap.size w w7 := Below.grown (by repeat (first | with_reducible exact b6 | with_reducible refine Below.drew ?_)) g7 (by first | omega | (simp; omega)) (fun g e => (World.ownsRow.lt j6 g e).1); clear g7))
        all_goals
          have hK : Rws w7 w.heap.size v7 R := by rw [HRE.out]; simpa using i7
          clear i7
          go_wp2_with fail
          go_meet
          case rel => exact ⟨hK, b7⟩
      case rest =>
        obtain ⟨r4, b4⟩ := hcut
        have HR4 : Hid (Rws wc w.heap.size u4 R) := r4
        have HB4 : Hid (Below w.heap.size w wc) := b4
        clear r4 b4 VB S0 X0 d0 d1 d2 hx2
        go_wp2
        go_ret
        exact ⟨_, rfl, HR4.out, HB4.out⟩
    · have hcp2 : (cl == p) = false := by simpa using hcp
      have HDL : Hid ((l.drop p).length = l.length - p) := by show _ = _; rw [List.length_drop]
      have HSD : Hid (SlRw w (some ⟨b, o + p * 3, none⟩) (l.drop p)) := HS.out.drop p
      go_enter Tryd.func44, Tryd.ntmps44
      go_wp2_with fail
      refine PL.mono ?_
      rintro e w2 ⟨rfl, b2⟩
      have x2 := HX.out.below b2
      obtain ⟨d0, d1, d2⟩ := x2.cells
      have hx2 := x2.lt
      have HB2 : Hid (Below w.heap.size w w2) := HBA.out.trans (b2.mono HBA.out.size)
      have bB : Below w2.heap.size w2 (w2.alloc (.cells #[.string x.key, .string x.text, .string x.val] 32)) := (Below.refl _ _).alloc (Nat.le_refl _) _
      have S0 : Hid (SlRw (w2.alloc (.cells #[.string x.key, .string x.text, .string x.val] 32)) (some ⟨b, o, none⟩) (l.take p)) := ((HS.out.below HB2.out (Nat.le_refl _)).take p).below bB (Nat.le_refl _)
      have X0 : Hid (SlV (w2.alloc (.cells #[.string x.key, .string x.text, .string x.val] 32)) (.slice (some ⟨w2.heap.size, 0, none⟩) 1 1) [x]) := (rws_lit1 w2 _ w2.heap.size x rfl (Nat.le_refl _)).slV
      have VB : Hid (∀ u, Below w.heap.size w u → SlV u (.slice (some ⟨b, o + p * 3, none⟩) (l.length - p) (cl - p)) (l.drop p)) := fun u hu => ⟨_, _, by rw [HDL.out], HSD.out.below hu (Nat.le_refl _)⟩
      have hw2 := HB2.out.size
      clear PL b2 x2 HX HBA
      go_upto_region 5 with fail
      go_cut [4] from 5 to 31 (fun v4 wx => Rws wx w.heap.size v4 R ∧ Below w.heap.size w wx)
      case first =>
        go_region_law (first
          | (refine step_append_full rfl (.tmp 26) (.tmp 28) rfl b p o (.slice (some ⟨w2.heap.size, 0, none⟩) 1 1) (l.take p) [x] HTL.out.symm rfl rfl (slRw_heap S0.out rfl) (slV_heap X0.out rfl) (by simp) (by rw [HTL.out]; simp; omega) ?_; intro v6 w6 i6 g6; have b6 : Below w.heap.size w w6 := Below.grown (by repeat (first | with_reducible exact (HB2.out.trans (bB.mono HB2.out.size)) | with_reducible refine Below.drew ?_)) g6 (by simp; omega) (fun g e => by cases e); have j6 := rws_low6 i6 (show w.heap.size ≤ _ by simp; omega); have hz6 := b6.size; clear g6 i6)
          | (refine step_append_rws rfl (.tmp 29) (.tmp 30) rfl w.heap.size v6 _ (l.take p ++ [x]) (l.drop p) rfl rfl (rws_heap j6 rfl) (slV_heap (VB.out _ b6) rfl) (by simp; omega) (by first | omega | (simp; omega)) ?_; intro v7 w7 i7 g7; have b7 : Below w.heap.size w w7 := Below.grown (by repeat (first | with_reducible exact b6 | with_reducible refine Below.drew ?_)) g7 (by first | omega | (simp; omega)) (fun g e => (World.ownsRow.lt j6 g e).1); clear g7))
        all_goals
          have hK : Rws w7 w.heap.size v7 R := by rw [HRE.out]; simpa using i7
          clear i7
          go_wp2_with fail
          go_meet
          case rel => exact ⟨hK, b7⟩
      case rest =>
        obtain ⟨r4, b4⟩ := hcut
        have HR4 : Hid (Rws wc w.heap.size u4 R) := r4
        have HB4 : Hid (Below w.heap.size w wc) := b4
        clear r4 b4 VB S0 X0 d0 d1 d2 hx2
        go_wp2
        go_ret
        exact ⟨_, rfl, HR4.out, HB4.out⟩
  · rw [hth] at PL HRE
    simp only [if_true] at HRE
    have hpt := htt hth
    clear htt hth
    have hcp2 : (cl == p) = false := by simp; omega
    have hp7 : (p : Int) + 1 ≤ (cl : Int) := by omega
    have hp6 : (p : Int) + 1 ≤ (l.length : Int) := by omega
    have hwr : IntKind.i64.wrap ((p : Int) + 1) = (p : Int) + 1 := by rw [IntKind.wrap_i64]; omega
    have hto : ((p : Int) + 1).toNat = p + 1 := by omega
    have hz0 : (0 : Int) ≤ (p : Int) + 1 := by omega
    by_cases hcq : cl = p + 1
    · subst hcq
      have hpp1 : (p : Int) ≤ (p : Int) + 1 := by omega
      have HDL : Hid ((l.drop (p + 1)).length = 0) := by show _ = _; rw [List.length_drop]; omega
      have hl0 : l.length - (p + 1) = 0 := by omega
      have HSD : Hid (SlRw w (some ⟨b, o, none⟩) (l.drop (p + 1))) := .inl (List.drop_eq_nil_of_le (by omega))
      go_enter Tryd.func44, Tryd.ntmps44
      go_wp2_with fail
      refine PL.mono ?_
      rintro e w2 ⟨rfl, b2⟩
      have x2 := HX.out.below b2
      obtain ⟨d0, d1, d2⟩ := x2.cells
      have hx2 := x2.lt
      have HB2 : Hid (Below w.heap.size w w2) := HBA.out.trans (b2.mono HBA.out.size)
      have bB : Below w2.heap.size w2 (w2.alloc (.cells #[.string x.key, .string x.text, .string x.val] 32)) := (Below.refl _ _).alloc (Nat.le_refl _) _
      have S0 : Hid (SlRw (w2.alloc (.cells #[.string x.key, .string x.text, .string x.val] 32)) (some ⟨b, o, none⟩) (l.take p)) := ((HS.out.below HB2.out (Nat.le_refl _)).take p).below bB (Nat.le_refl _)
      have X0 : Hid (SlV (w2.alloc (.cells #[.string x.key, .string x.text, .string x.val] 32)) (.slice (some ⟨w2.heap.size, 0, none⟩) 1 1) [x]) := (rws_lit1 w2 _ w2.heap.size x rfl (Nat.le_refl _)).slV
      have VB : Hid (∀ u, Below w.heap.size w u → SlV u (.slice (some ⟨b, o, none⟩) 0 0) (l.drop (p + 1))) := fun u hu => ⟨_, _, by rw [HDL.out], HSD.out.below hu (Nat.le_refl _)⟩
      have hw2 := HB2.out.size
      clear PL b2 x2 HX HBA
      go_upto_region 5 with fail
      go_cut [4] from 5 to 31 (fun v4 wx => Rws wx w.heap.size v4 R ∧ Below w.heap.size w wx)
      case first =>
        go_region_law (first
          | (refine step_append_full rfl (.tmp 26) (.tmp 28) rfl b p o (.slice (some ⟨w2.heap.size, 0, none⟩) 1 1) (l.take p) [x] HTL.out.symm rfl rfl (slRw_heap S0.out rfl) (slV_heap X0.out rfl) (by simp) (by rw [HTL.out]; simp; omega) ?_; intro v6 w6 i6 g6; have b6 : Below w.heap.size w w6 := Below.grown (by repeat (first | with_reducible exact (HB2.out.trans (bB.mono HB2.out.size)) | with_reducible refine Below.drew ?_)) g6 (by simp; omega) (fun g e => by cases e); have j6 := rws_low6 i6 (show w.heap.size ≤ _ by simp; omega); have hz6 := b6.size; clear g6 i6)
          | (refine step_append_rws rfl (.tmp 29) (.tmp 30) rfl w.heap.size v6 _ (l.take p ++ [x]) (l.drop (p + 1)) rfl rfl (rws_heap j6 rfl) (slV_heap (VB.out _ b6) rfl) (by simp; omega) (by first | omega | (simp; omega)) ?_; intro v7 w7 i7 g7; have b7 : Below w.heap.size w w7 := Below.grown (by repeat (first | with_reducible exact b6 | with_reducible refine Below.drew ?_)) g7 (by first | omega | (simp; omega)) (fun g e => (World.ownsRow.lt j6 g e).1); clear g7))
        all_goals
          have hK : Rws w7 w.heap.size v7 R := by rw [HRE.out]; simpa using i7
          clear i7
          go_wp2_with fail
          go_meet
          case rel => exact ⟨hK, b7⟩
      case rest =>
        obtain ⟨r4, b4⟩ := hcut
        have HR4 : Hid (Rws wc w.heap.size u4 R) := r4
        have HB4 : Hid (Below w.heap.size w wc) := b4
        clear r4 b4 VB S0 X0 d0 d1 d2 hx2
        go_wp2
        go_ret
        exact ⟨_, rfl, HR4.out, HB4.out⟩
    · have hcq2 : (cl == p + 1) = false := by simpa using hcq
      have HDL : Hid ((l.drop (p + 1)).length = l.length - (p + 1)) := by show _ = _; rw [List.length_drop]
      have HSD : Hid (SlRw w (some ⟨b, o + (p + 1) * 3, none⟩) (l.drop (p + 1))) := HS.out.drop (p + 1)
      go_enter Tryd.func44, Tryd.ntmps44
      go_wp2_with fail
      refine PL.mono ?_
      rintro e w2 ⟨rfl, b2⟩
      have x2 := HX.out.below b2
      obtain ⟨d0, d1, d2⟩ := x2.cells
      have hx2 := x2.lt
      have HB2 : Hid (Below w.heap.size w w2) := HBA.out.trans (b2.mono HBA.out.size)
      have bB : Below w2.heap.size w2 (w2.alloc (.cells #[.string x.key, .string x.text, .string x.val] 32)) := (Below.refl _ _).alloc (Nat.le_refl _) _
      have S0 : Hid (SlRw (w2.alloc (.cells #[.string x.key, .string x.text, .string x.val] 32)) (some ⟨b, o, none⟩) (l.take p)) := ((HS.out.below HB2.out (Nat.le_refl _)).take p).below bB (Nat.le_refl _)
      have X0 : Hid (SlV (w2.alloc (.cells #[.string x.key, .string x.text, .string x.val] 32)) (.slice (some ⟨w2.heap.size, 0, none⟩) 1 1) [x]) := (rws_lit1 w2 _ w2.heap.size x rfl (Nat.le_refl _)).slV
      have VB : Hid (∀ u, Below w.heap.size w u → SlV u (.slice (some ⟨b, o + (p + 1) * 3, none⟩) (l.length - (p + 1)) (cl - (p + 1))) (l.drop (p + 1))) := fun u hu => ⟨_, _, by rw [HDL.out], HSD.out.below hu (Nat.le_refl _)⟩
      have hw2 := HB2.out.size
      clear PL b2 x2 HX HBA
      go_upto_region 5 with fail
      go_cut [4] from 5 to 31 (fun v4 wx => Rws wx w.heap.size v4 R ∧ Below w.heap.size w wx)
      case first =>
        go_region_law (first
          | (refine step_append_full rfl (.tmp 26) (.tmp 28) rfl b p o (.slice (some ⟨w2.heap.size, 0, none⟩) 1 1) (l.take p) [x] HTL.out.symm rfl rfl (slRw_heap S0.out rfl) (slV_heap X0.out rfl) (by simp) (by rw [HTL.out]; simp; omega) ?_; intro v6 w6 i6 g6; have b6 : Below w.heap.size w w6 := Below.grown (by repeat (first | with_reducible exact (HB2.out.trans (bB.mono HB2.out.size)) | with_reducible refine Below.drew ?_)) g6 (by simp; omega) (fun g e => by cases e); have j6 := rws_low6 i6 (show w.heap.size ≤ _ by simp; omega); have hz6 := b6.size; clear g6 i6)
          | (refine step_append_rws rfl (.tmp 29) (.tmp 30) rfl w.heap.size v6 _ (l.take p ++ [x]) (l.drop (p + 1)) rfl rfl (rws_heap j6 rfl) (slV_heap (VB.out _ b6) rfl) (by simp; omega) (by first | omega | (simp; omega)) ?_; intro v7 w7 i7 g7; have b7 : Below w.heap.size w w7 := Below.grown (by repeat (first | with_reducible exact b6 | with_reducible refine Below.drew ?_)) g7 (by first | omega | (simp; omega)) (fun g e => (World.ownsRow.lt j6 g e).1); clear g7))
        all_goals
          have hK : Rws w7 w.heap.size v7 R := by rw [HRE.out]; simpa using i7
          clear i7
          go_wp2_with fail
          go_meet
          case rel => exact ⟨hK, b7⟩
      case rest =>
        obtain ⟨r4, b4⟩ := hcut
        have HR4 : Hid (Rws wc w.heap.size u4 R) := r4
        have HB4 : Hid (Below w.heap.size w wc) := b4
        clear r4 b4 VB S0 X0 d0 d1 d2 hx2
        go_wp2
        go_ret
        exact ⟨_, rfl, HR4.out, HB4.out⟩
end Go.Proofs.YticogafoopkflaaDoor
