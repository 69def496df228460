/- Texts of mine laid together: AppT6, SBook6, IBytes6, STell6, PPutA. -/
import Derived.Test.YticogafoopkflaaDoorRepl6a
import Derived.Test.YticogafoopkflaaDoorMD2
import Derived.Test.YticogafoopkflaaDoorMD1
import Derived.Test.YticogafoopkflaaDoorBkV
import Derived.Test.YticogafoopkflaaDoorIPage6
import Derived.Deep.AppendLies
import Derived.Maps.AppendAt
import Derived.Test.YticogafoopkflaaDoorPPut6
import Derived.Test.YticogafoopkflaaDoorSPage6
import Derived.BigQuiet
import Derived.Deep.QuietTactic
namespace Go.Proofs.YticogafoopkflaaDoor
open Go.RowKit

/-- A row of slices that is read, wherever it lies, none of them too. -/
def SrcV (w : World) (v : Value) (gs : List (List Rw)) (vs : List Value) : Prop :=
  ∃ a c, v = .slice a gs.length c ∧ (gs = [] ∨ ∃ g o, a = some ⟨g, o, none⟩ ∧ ∀ j u, vs[j]? = some u → w.cell? ⟨g, o + j, none⟩ = some u) ∧ ValsT w vs gs

theorem srcV_heap {w u : World} {v : Value} {gs : List (List Rw)} {vs : List Value} (h : SrcV w v gs vs) (hu : u.heap = w.heap) : SrcV u v gs vs := by
  obtain ⟨a, c, h1, h2, h3⟩ := h
  refine ⟨a, c, h1, ?_, valsT_heap h3 hu⟩
  rcases h2 with h2 | ⟨g, o, q1, q2⟩
  · exact .inl h2
  · refine .inr ⟨g, o, q1, fun j x hx => ?_⟩
    have e1 : ∀ p, u.cell? p = w.cell? p := fun p => by unfold World.cell?; rw [hu]
    rw [e1]
    exact q2 j x hx

theorem SrcV.below {w w' : World} {v : Value} {gs : List (List Rw)} {vs : List Value} (h : SrcV w v gs vs) (hb : Below w.heap.size w w') : SrcV w' v gs vs := by
  obtain ⟨a, c, h1, h2, h3⟩ := h
  refine ⟨a, c, h1, ?_, h3.below hb (Nat.le_refl _)⟩
  rcases h2 with h2 | ⟨g, o, q1, q2⟩
  · exact .inl h2
  · exact .inr ⟨g, o, q1, fun j x hx => (hb.cell (rw_cell_lt (q2 j x hx))).trans (q2 j x hx)⟩

theorem OwnT.srcV {w : World} {B : Nat} {v : Value} {gs : List (List Rw)} {vs : List Value} (h : OwnT w B v gs vs) : SrcV w v gs vs := by
  by_cases h0 : 0 < gs.length
  · obtain ⟨g, c, rfl, _, q, _⟩ := h.src h0
    refine ⟨_, c, rfl, .inr ⟨g, 0, rfl, fun j u hj => ?_⟩, h.2⟩
    have := q j u hj
    rw [add_cell] at this
    exact this
  · obtain ⟨a, c, rfl⟩ := h.form
    exact ⟨a, c, rfl, .inl (List.eq_nil_of_length_eq_zero (by omega)), h.2⟩

/-- The first of them. -/
theorem SrcV.take {w : World} {a : Option Addr} {c : Nat} {gs : List (List Rw)} {vs : List Value} (h : SrcV w (.slice a gs.length c) gs vs) (k : Nat) (hk : k ≤ gs.length) : SrcV w (.slice a k c) (gs.take k) (vs.take k) := by
  obtain ⟨a', c', h1, h2, h3⟩ := h
  injection h1 with q1 _ q3
  subst q1
  subst q3
  refine ⟨a, c, by rw [List.length_take, Nat.min_eq_left hk], ?_, h3.take k⟩
  rcases h2 with h2 | ⟨g, o, q1, q2⟩
  · exact .inl (by rw [h2]; simp)
  · refine .inr ⟨g, o, q1, fun j u hj => q2 j u ?_⟩
    rw [List.getElem?_take] at hj
    split at hj
    · exact hj
    · cases hj

/-- Those behind the first. -/
theorem SrcV.drop {w : World} {g o c : Nat} {gs : List (List Rw)} {vs : List Value} (h : SrcV w (.slice (some ⟨g, o, none⟩) gs.length c) gs vs) (k : Nat) : SrcV w (.slice (some ⟨g, o + k, none⟩) (gs.length - k) (c - k)) (gs.drop k) (vs.drop k) := by
  obtain ⟨a', c', h1, h2, h3⟩ := h
  injection h1 with q1 _ q3
  subst q1
  subst q3
  refine ⟨_, c - k, by rw [List.length_drop], ?_, h3.drop k⟩
  rcases h2 with h2 | ⟨g', o', q1, q2⟩
  · exact .inl (by rw [h2]; simp)
  · cases q1
    refine .inr ⟨g, o + k, rfl, fun j u hj => ?_⟩
    rw [List.getElem?_drop] at hj
    have := q2 (k + j) u hj
    rw [show o + (k + j) = o + k + j by omega] at this
    exact this

theorem SrcV.none {w : World} {a : Option Addr} {c : Nat} : SrcV w (.slice a 0 c) [] [] := ⟨a, c, rfl, .inl rfl, ValsT.nil w⟩

theorem append_ts {w : World} {ops : Array Oper} {rest : List Oper} {o : Oper} {a : Act} {Q : Exit → Act → World → Prop} (hgd : o.guard = none) (s x : Operand)
    (ho : o.op = .call { callee := .builtin .append, args := #[s, x], argTypes := #[52, 52] }) (B : Nat) (v vx : Value) (gs ps : List (List Rw)) (vs vsp : List Value) (hs : a.eval s = v) (hx : a.eval x = vx) (hO : OwnT w B v gs vs) (hP : SrcV w vx ps vsp)
    (h63 : gs.length + ps.length ≤ 1048576) (hbase : B ≤ w.heap.size) (h : ∀ v' w', OwnT w' B v' (gs ++ ps) (vs ++ vsp) → w.grownBy w' v.ownBlock → wpList Tryd.prog ops Q rest (a.put o.dst v') w') : wpList Tryd.prog ops Q (o :: rest) a w := by
  obtain ⟨i0, hi, hzz, hz1, hz2⟩ := info_parts info_rwT
  obtain ⟨ax, cx, rfl, h2, h3⟩ := hP
  have key : ValsT w (vs ++ vsp) (gs ++ ps) := hO.2.app h3
  have app : ∀ ad : Addr, ax = some ad → (∀ j u, vsp[j]? = some u → w.cell? (ad.add j) = some u) → wpList Tryd.prog ops Q (o :: rest) a w := fun ad had hcell => by
    subst had
    obtain ⟨v', w', hrun, r1, r2, _⟩ := run_append_own (P := Tryd.prog) w B 52 o.type 23 i0 (.slice none 0 0) 1 24 Tryd.underlying52 hi hzz hz1 hz2 rfl (by decide) v gs.length vs hO.1 ad ps.length cx vsp (by rw [h3.1, Nat.mul_one]) hcell h3.one' (by unfold maxLen; omega) (by omega) hbase
    refine Go.Lib.wpList_append_run w hgd s x 52 52 ho _ _ hs hx _ _ hrun (h v' w' ⟨by rw [List.length_append]; exact r1, ?_⟩ r2)
    rcases hO.1.2 with ⟨rfl, _⟩ | ⟨g', cap', cur', rfl, _, hgt, _⟩
    · exact key.below (B := w.heap.size) ⟨r2.os, r2.tape, r2.output, r2.size, fun k hk => r2.block k hk (by simp [Value.ownBlock])⟩ (Nat.le_refl _)
    · exact key.kept r2 hgt
  rcases h2 with rfl | ⟨g, off, rfl, hc⟩
  · have hv0 : vsp = [] := List.eq_nil_of_length_eq_zero (by rw [h3.1]; rfl)
    subst hv0
    cases ax with
    | none =>
      obtain ⟨b, n, c', rfl, hnc⟩ : ∃ b n c, v = .slice b n c ∧ n ≤ c := by
        rcases hO.1.2 with ⟨rfl, _⟩ | ⟨g, cap, cur, rfl, _, _, q, _⟩
        · exact ⟨_, _, _, rfl, Nat.le_refl _⟩
        · exact ⟨_, _, _, rfl, q⟩
      refine Go.Lib.wpList_append_run w hgd s x 52 52 ho _ _ hs hx _ _ (run_append_none6 w _ _ _ i0 Tryd.underlying52 hi b n c' cx hnc) (h _ _ ?_ ⟨rfl, rfl, rfl, Nat.le_refl _, fun _ _ _ => rfl⟩)
      rw [List.append_nil, List.append_nil]
      exact hO
    | some ad => exact app ad rfl (fun j u hj => by simp at hj)
  · refine app _ rfl fun j u hj => ?_
    rw [add_cell]
    exact hc j u hj

theorem NestR.heap {w u : World} {lo hi : Nat} {v : Value} {gs : List (List Rw)} {vs : List Value} (h : NestR w lo hi v gs vs) (hu : u.heap = w.heap) : NestR u lo hi v gs vs := h.same (by rw [hu]; exact Nat.le_refl _) (fun g _ _ => by rw [hu])
end Go.Proofs.YticogafoopkflaaDoor

namespace Go.Proofs.YticogafoopkflaaDoor
open Go.RowKit

/-- The key that stands last in the page ahead. -/
def lastOf (ss : List ByteArray) : Nat → ByteArray
  | 0 => ⟨#[]⟩
  | j + 1 => match ss[j]? with
    | none => ⟨#[]⟩
    | some y => endK (readP y)

theorem lastOf_succ {ss : List ByteArray} {j : Nat} {y : ByteArray} (h : ss[j]? = some y) : lastOf ss (j + 1) = endK (readP y) := by simp [lastOf, h]

def SBkRel (w : World) (ss : List ByteArray) (vb vl i : Value) (wr : World) : Prop :=
  ∃ (k hi : Nat) (vs : List Value), k ≤ ss.length ∧ i = .int .i64 (k : Int) ∧ vl = .string (lastOf ss k) ∧ NestR wr w.heap.size hi vb (accK ss k) vs ∧ bkF (accK ss k) (ss.drop k) = bookF ss ∧ Below w.heap.size w wr

set_option maxRecDepth 100000 in
set_option maxHeartbeats 8000000 in
theorem specAll_any {w : World} {B : Nat} {vp : Value} {ss : List ByteArray} (hS : Strs w B vp ss) (hz : ∀ s ∈ ss, s.size ≤ 1048576) (hl : ss.length ≤ 1048576) :
    Calls Tryd.prog 46 #[vp] w fun e w' => ∃ v, e = .returned (.tuple #[v, .bool (bookF ss).isSome]) ∧ (∀ gs, bookF ss = some gs → ∃ vs, NestR w' w.heap.size w'.heap.size v gs vs) ∧ Below w.heap.size w w' := by
  obtain ⟨a, c, rfl, hq⟩ := strs6_all hS
  have HQ : Hid _ := hq
  have HZ : Hid (∀ s ∈ ss, s.size ≤ 1048576) := hz
  clear hS hq hz
  by_cases h40 : ss.length ≤ 40
  · have n40 : ¬ (40 : Int) < (ss.length : Int) := by omega
    obtain ⟨i1, hi1, hy0, hy1, hy2⟩ := info_parts info_rwL
    have HB0 : Hid (bkF (accK ss 0) (ss.drop 0) = bookF ss) := by show _ = _; unfold bookF; rw [if_pos h40]; simp [accK]
    go_enter Tryd.func46, Tryd.ntmps46
    go_wp2_with fail
    go_loopw [4, 5, 15] (fun vb vl i wr => SBkRel w ss vb vl i wr) (fun _ _ i _ => ss.length - (intOf i).toNat)
    case atStart => exact ⟨0, _, [], Nat.zero_le _, rfl, rfl, NestR.nil w _, HB0.out, Below.refl _ _⟩
    case round =>
      obtain ⟨k, hi, vs, hk, rfl, rfl, hN, hE, hb⟩ := hrel
      by_cases hlt : k < ss.length
      · obtain ⟨s, hs⟩ : ∃ s, ss[k]? = some s := ⟨_, List.getElem?_eq_getElem hlt⟩
        obtain ⟨g, rfl, qc⟩ := HQ.out k s hs
        have c0 := qc wr hb k s hs
        have hc0 := rw_cell_lt c0
        have hlt8 : (k : Int) < (ss.length : Int) := by omega
        have RD := specRead_any s wr (HZ.out s (List.mem_of_getElem? hs))
        have hrl := readP_len s
        have hsz := HZ.out s (List.mem_of_getElem? hs)
        have HS : Hid (ss[k]? = some s) := hs
        have HN : Hid (NestR wr w.heap.size hi _ (accK ss k) vs) := hN
        have HE : Hid (bkF (accK ss k) (ss.drop k) = bookF ss) := hE
        have HB : Hid (Below w.heap.size w wr) := hb
        clear hs hN hE hb qc
        by_cases hcd : codeP s = 0
        · rw [hcd] at RD
          have hpos := readP_some hcd
          have HLO : Hid (lastOf ss (k + 1) = endK (readP s)) := lastOf_succ HS.out
          obtain ⟨x0, hx0⟩ : ∃ x0, (readP s)[0]? = some x0 := ⟨_, List.getElem?_eq_getElem hpos⟩
          obtain ⟨xl, hxl⟩ : ∃ xl, (readP s)[(readP s).length - 1]? = some xl := ⟨_, List.getElem?_eq_getElem (by omega)⟩
          have HX0 : Hid (begK (readP s) = x0.key) := begK_at hx0
          have HXL : Hid (endK (readP s) = xl.key) := endK_at hxl
          have HX : Hid ((readP s)[0]? = some x0) := hx0
          have HXX : Hid ((readP s)[(readP s).length - 1]? = some xl) := hxl
          clear hx0 hxl
          have hm1 : ((readP s).length : Int) - 1 = (((readP s).length - 1 : Nat) : Int) := by omega
          have hm2 : (((readP s).length - 1 : Nat) : Int) < ((readP s).length : Int) := by omega
          have hpos8 : (0 : Int) < ((readP s).length : Int) := by omega
          go_wp2_with fail
          refine RD.mono ?_
          rintro e w2 ⟨v2, rfl, r2, b2⟩
          obtain ⟨g2, c2, rfl, q2⟩ := rws_at r2 hpos
          have d0 : w2.cell? ⟨g2, 0, none⟩ = some (.string x0.key) := q2 0 x0 HX.out
          have dl := q2 _ xl HXX.out
          have hd0 := rw_cell_lt d0
          have HN2 : Hid (NestR w2 w.heap.size hi u4 (accK ss k) vs) := HN.out.below b2
          have HB2 : Hid (Below w.heap.size w w2) := HB.out.trans (b2.mono HB.out.size)
          have HR2 : Hid (Rws w2 wr.heap.size _ _) := r2
          have HBR : Hid (Below wr.heap.size wr w2) := b2
          clear RD r2 b2 q2
          by_cases hk0 : k = 0
          · subst hk0
            have HO : Hid (okNext (accK ss 0) s = true) := by show _ = _; rw [okNext_zero, hcd]; rfl
            have HN3 : Hid (NestR w2 w.heap.size hi _ (accK ss 0) vs) := HN2.out
            have HB3 : Hid (Below w.heap.size w w2) := HB2.out
            have hgn : (accK ss 0).length = 0 := accK_len hk
            have hsU := HB3.out.size
            have bA := (Below.refl w2.heap.size w2).alloc (Nat.le_refl _) (.cells #[.slice (some ⟨g2, 0, none⟩) (readP s).length c2] 23)
            have hrow := (HN3.out.below bA).row
            obtain ⟨a1, c1, hv1, _⟩ := HN3.out.form
            subst hv1
            have HU : Hid (Below wr.heap.size wr (w2.alloc (.cells #[.slice (some ⟨g2, 0, none⟩) (readP s).length c2] 23))) := HBR.out.alloc HBR.out.size _
            have HX0' : Hid (Rws (w2.alloc (.cells #[.slice (some ⟨g2, 0, none⟩) (readP s).length c2] 23)) wr.heap.size (.slice (some ⟨g2, 0, none⟩) (readP s).length c2) (readP s)) := HR2.out.below bA
            go_wp2_with (at_builtin; refine wpList_append_lies _ rfl _ _ 52 rfl w.heap.size 23 i1 (.slice none 0 0) 1 24 Tryd.underlying52 hi1 hy0 hy1 hy2 rfl (by decide) _ _ _ rfl hrow ⟨_, 0, none⟩ 1 1 [.slice (some ⟨g2, 0, none⟩) (readP s).length c2] rfl rfl (cell_one_new _ _ _) (fun x hx => by simp at hx; subst hx; rfl) (by omega) (by unfold maxLen; omega) (by omega) (by simp; omega) _ rfl ?_)
            intro g5 c5 u5 ho5 hg5 hgo5 hlt5
            have N5 := HN.out.push HB.out.size HU.out HX0'.out hg5 ho5
            have B5 : Below w.heap.size w u5 := Below.grown (HB3.out.trans (bA.mono HB3.out.size)) hg5 (Nat.le_trans HB3.out.size bA.size) (fun j hj => (World.ownsRow.lt hrow j hj).1)
            have NN : NestR u5 w.heap.size u5.heap.size (.slice (some ⟨g5, 0, none⟩) ((accK ss 0).length + 1) c5) (accK ss (0 + 1)) _ := accK_succ HS.out ▸ N5
            have HNN : Hid (NestR _ _ _ _ _ _) := NN
            have HB5 : Hid (Below w.heap.size w u5) := B5
            have HE5 : Hid (bkF (accK ss (0 + 1)) (ss.drop (0 + 1)) = bookF ss) := by show _ = _; rw [← HE.out, bkF_yes HS.out HO.out, accK_succ HS.out]
            clear N5 B5 NN HN HB HU HX0' hg5 ho5 hrow bA HN3 HB3 HN2 HB2 HR2 HBR HE
            go_wp2
            exact ⟨⟨0 + 1, _, _, by omega, by go_num, (by rw [HLO.out, HXL.out]), HNN.out, HE5.out, HB5.out⟩, by simp [intOf]; omega⟩
          · obtain ⟨j, rfl⟩ : ∃ j, k = j + 1 := ⟨k - 1, by omega⟩
            obtain ⟨y, hy⟩ : ∃ y, ss[j]? = some y := ⟨_, List.getElem?_eq_getElem (by omega)⟩
            have hon := okNext_succ (s := s) hy
            rw [hcd, HX0.out, ← lastOf_succ hy] at hon
            have hj8 : (0 : Int) < ((j + 1 : Nat) : Int) := by omega
            generalize lastOf ss (j + 1) = lk at *
            cases hlk : ltK lk x0.key
            · have HF : Hid (bookF ss = none) := by show _ = _; rw [← HE.out]; exact bkF_no HS.out (by rw [hon, hlk]; rfl)
              unfold ltK at hlk
              clear hon
              go_wp2_with fail
              have HB3 : Hid (Below w.heap.size w w2) := HB2.out
              go_ret2
              rw [HF.out]
              exact ⟨_, rfl, fun gs h => (by cases h), HB3.out⟩
            · have HO : Hid (okNext (accK ss (j + 1)) s = true) := by show _ = _; rw [hon, hlk]; rfl
              unfold ltK at hlk
              clear hon
              have HN3 : Hid (NestR w2 w.heap.size hi _ (accK ss (j + 1)) vs) := HN2.out
              have HB3 : Hid (Below w.heap.size w w2) := HB2.out
              have hgn : (accK ss (j + 1)).length = j + 1 := accK_len hk
              have hsU := HB3.out.size
              have bA := (Below.refl w2.heap.size w2).alloc (Nat.le_refl _) (.cells #[.slice (some ⟨g2, 0, none⟩) (readP s).length c2] 23)
              have hrow := (HN3.out.below bA).row
              obtain ⟨a1, c1, hv1, _⟩ := HN3.out.form
              subst hv1
              rw [hgn] at hrow
              have HU : Hid (Below wr.heap.size wr (w2.alloc (.cells #[.slice (some ⟨g2, 0, none⟩) (readP s).length c2] 23))) := HBR.out.alloc HBR.out.size _
              have HX0' : Hid (Rws (w2.alloc (.cells #[.slice (some ⟨g2, 0, none⟩) (readP s).length c2] 23)) wr.heap.size (.slice (some ⟨g2, 0, none⟩) (readP s).length c2) (readP s)) := HR2.out.below bA
              go_wp2_with (at_builtin; refine wpList_append_lies _ rfl _ _ 52 rfl w.heap.size 23 i1 (.slice none 0 0) 1 24 Tryd.underlying52 hi1 hy0 hy1 hy2 rfl (by decide) _ _ _ rfl hrow ⟨_, 0, none⟩ 1 1 [.slice (some ⟨g2, 0, none⟩) (readP s).length c2] rfl rfl (cell_one_new _ _ _) (fun x hx => by simp at hx; subst hx; rfl) (by omega) (by unfold maxLen; omega) (by omega) (by simp; omega) _ rfl ?_)
              intro g5 c5 u5 ho5 hg5 hgo5 hlt5
              have N5 := HN.out.push HB.out.size HU.out HX0'.out (by rw [hgn]; exact hg5) (by rw [hgn]; exact ho5)
              rw [accK_succ HS.out, hgn] at N5
              have B5 : Below w.heap.size w u5 := Below.grown (HB3.out.trans (bA.mono HB3.out.size)) hg5 (Nat.le_trans HB3.out.size bA.size) (fun i hj => (World.ownsRow.lt hrow i hj).1)
              have NN : NestR u5 w.heap.size u5.heap.size (.slice (some ⟨g5, 0, none⟩) (j + 1 + 1) c5) (accK ss (j + 1 + 1)) _ := N5
              have HNN : Hid (NestR _ _ _ _ _ _) := NN
              have HB5 : Hid (Below w.heap.size w u5) := B5
              have HE5 : Hid (bkF (accK ss (j + 1 + 1)) (ss.drop (j + 1 + 1)) = bookF ss) := by show _ = _; rw [← HE.out, bkF_yes HS.out HO.out, accK_succ HS.out]
              clear N5 B5 NN HN HB HU HX0' hg5 ho5 hrow bA HN3 HB3 HN2 HB2 HR2 HBR HE
              go_wp2
              exact ⟨⟨j + 1 + 1, _, _, by omega, by go_num, (by rw [HLO.out, HXL.out]), HNN.out, HE5.out, HB5.out⟩, by simp [intOf]; omega⟩
        · have HF : Hid (bookF ss = none) := by show _ = _; rw [← HE.out]; exact bkF_no HS.out (by unfold okNext; rw [decide_eq_false hcd]; rfl)
          generalize codeP s = cd at *
          go_wp2_with fail
          refine RD.mono ?_
          rintro e w2 ⟨v2, rfl, r2, b2⟩
          obtain ⟨a2, c2, rfl⟩ := rw_form r2
          have HB2 : Hid (Below w.heap.size w w2) := HB.out.trans (b2.mono HB.out.size)
          clear RD r2 b2
          go_wp2_with fail
          have HB3 : Hid (Below w.heap.size w w2) := HB2.out
          go_ret2
          rw [HF.out]
          exact ⟨_, rfl, fun gs h => (by cases h), HB3.out⟩
      · have hkz : k = ss.length := by omega
        subst hkz
        have HF : Hid (bookF ss = some (accK ss ss.length)) := by show _ = _; rw [← hE, bkF_end]
        have HN : Hid (NestR wr w.heap.size hi _ (accK ss ss.length) vs) := hN
        have HB : Hid (Below w.heap.size w wr) := hb
        clear hN hb hE
        go_wp2
        go_ret2
        rw [HF.out]
        exact ⟨_, rfl, fun gs h => by obtain rfl := Option.some.inj h; exact ⟨_, HN.out.high HN.out.top (Nat.le_refl _)⟩, HB.out⟩
  · have n40 : (40 : Int) < (ss.length : Int) := by omega
    have HF : Hid (bookF ss = none) := by show _ = _; unfold bookF; rw [if_neg h40]
    go_enter Tryd.func46, Tryd.ntmps46
    go_wp2
    go_ret2
    rw [HF.out]
    exact ⟨_, rfl, fun gs h => (by cases h), Below.refl _ _⟩
end Go.Proofs.YticogafoopkflaaDoor

namespace Go.Proofs.YticogafoopkflaaDoor
open Go.RowKit

theorem info_strB : (Tryd.prog.info? 9).map (fun i => (i.zero, i.size, i.bytes)) = some (some (.string ⟨#[]⟩), 1, 16) := by kernel_rfl

theorem strs_formB {w : World} {B : Nat} {v : Value} {ss : List ByteArray} (h : Strs w B v ss) : ∃ a c, v = .slice a ss.length c := by
  rcases h.form with ⟨rfl, rfl⟩ | ⟨g, cap, rfl, _, _⟩
  · exact ⟨_, _, rfl⟩
  · exact ⟨_, _, rfl⟩

def ByRel (w : World) (gs : List (List Rw)) (f : List Rw → ByteArray) (ok : List Rw → Bool) (v i : Value) (wr : World) : Prop :=
  ∃ k : Nat, k ≤ gs.length ∧ i = .int .i64 (k : Int) ∧ Strs wr w.heap.size v ((gs.take k).map f) ∧ (∀ (j : Nat) (g : List Rw), j < k → gs[j]? = some g → ok g = true) ∧ Below w.heap.size w wr

theorem map_take_succ {gs : List (List Rw)} {k : Nat} {g : List Rw} (f : List Rw → ByteArray) (h : gs[k]? = some g) : (gs.take (k + 1)).map f = (gs.take k).map f ++ [f g] := by
  rw [List.take_add_one, h]
  simp

set_option maxRecDepth 100000 in
set_option maxHeartbeats 4000000 in
theorem bytes_any {w : World} {v : Value} {gs : List (List Rw)} (hV : BkV w v gs) (hl : gs.length ≤ 1048576) (hz : ∀ g ∈ gs, g.length ≤ 1048576) :
    Calls Tryd.prog 29 #[v] w fun e w' => ∃ v', e = .returned (.tuple #[v', .bool (bytF gs).isSome]) ∧ Strs w' w.heap.size v' ((bytF gs).getD []) ∧ Below w.heap.size w w' := by
  obtain ⟨a, c, rfl, hq⟩ := hV
  obtain ⟨R, HR⟩ : ∃ R, Hid (bytF gs = R) := ⟨_, rfl⟩
  rw [HR.out]
  by_cases h40 : gs.length ≤ 40
  · have n40 : ¬ (40 : Int) < (gs.length : Int) := by omega
    have HQ : Hid _ := hq
    have HZ : Hid (∀ g ∈ gs, g.length ≤ 1048576) := hz
    have HV : Hid (BkV w (.slice a gs.length c) gs) := ⟨a, c, rfl, hq⟩
    obtain ⟨i0, hi0, hy0, hy1, hy2⟩ := info_parts info_strB
    clear hq hz
    go_enter Tryd.func29, Tryd.ntmps29
    go_wp2_with fail
    go_loopw [4, 14] (fun v i wr => ByRel w gs pbT okPB v i wr) (fun _ i _ => gs.length - (intOf i).toNat)
    case atStart => exact ⟨0, Nat.zero_le _, rfl, World.ownsRow_nil _ _ _ _, fun j g hj => by omega, Below.refl _ _⟩
    case round =>
      obtain ⟨k, hk, rfl, hS, ho, hb⟩ := hrel
      by_cases hlt : k < gs.length
      · obtain ⟨g, hg⟩ : ∃ g, gs[k]? = some g := ⟨_, List.getElem?_eq_getElem hlt⟩
        obtain ⟨a', c', hv', hq⟩ := HV.out.below hb (Nat.le_refl _)
        injection hv' with q1 _ q3
        subst q1
        subst q3
        obtain ⟨b, o, ax, cx, rfl, c1, hsl⟩ := hq k g hg
        have hbl := rw_cell_lt c1
        have hk8 : (k : Int) < (gs.length : Int) := by omega
        have PB := implPB_any (cap := cx) hsl (HZ.out g (List.mem_of_getElem? hg))
        have HT : Hid ((gs.take (k + 1)).map pbT = (gs.take k).map pbT ++ [pbT g]) := map_take_succ pbT hg
        have HG : Hid (gs[k]? = some g) := hg
        have HO : Hid (∀ (j : Nat) (g : List Rw), j < k → gs[j]? = some g → okPB g = true) := ho
        have hlt1 : ((gs.take k).map pbT).length ≤ 40 := by simp; omega
        obtain ⟨ss, HSS⟩ : ∃ ss, Hid ((gs.take k).map pbT = ss) := ⟨_, rfl⟩
        rw [HSS.out] at HT hlt1 hS
        obtain ⟨a4, c4, hv4⟩ := strs_formB hS
        subst hv4
        have HS : Hid (Strs wr w.heap.size (.slice a4 ss.length c4) ss) := hS
        have HB : Hid (Below w.heap.size w wr) := hb
        clear hq hsl hg ho hS hb
        cases hok : okPB g
        · rw [hok] at PB
          have HRE : Hid (R = none) := by show _ = _; rw [← HR.out]; exact bytF_bad HG.out hok
          clear hok
          generalize pbT g = pg at *
          go_wp2_with fail
          refine PB.mono ?_
          rintro e w2 ⟨rfl, b2⟩
          have HB2 : Hid (Below w.heap.size w w2) := HB.out.trans (b2.mono HB.out.size)
          clear PB b2
          go_wp2
          go_ret2
          rw [HRE.out]
          exact ⟨_, rfl, World.ownsRow_nil _ _ _ _, HB2.out⟩
        · rw [hok] at PB
          have HO2 : Hid (∀ (j : Nat) (g : List Rw), j < k + 1 → gs[j]? = some g → okPB g = true) := fun j q hj hq => by
            by_cases e : j = k
            · rw [e, HG.out] at hq
              rw [← Option.some.inj hq]
              exact hok
            · exact HO.out j q (by omega) hq
          clear hok HO
          generalize pbT g = pg at *
          go_wp2_with fail
          refine PB.mono ?_
          rintro e w2 ⟨rfl, b2⟩
          have HB2 : Hid (Below w.heap.size w w2) := HB.out.trans (b2.mono HB.out.size)
          have bA := (Below.refl w2.heap.size w2).alloc (Nat.le_refl _) (.cells #[.string pg] 9)
          have hrow := (HS.out.below b2).below bA
          have HBA : Hid (Below w.heap.size w _) := HB2.out.trans (bA.mono HB2.out.size)
          have hsU := HB2.out.size
          unfold Strs at hrow
          clear PB b2 HS HB bA
          go_wp2_with (at_builtin; refine wpList_append_lies _ rfl _ _ 25 rfl w.heap.size 9 i0 _ 1 16 Tryd.underlying25 hi0 hy0 hy1 hy2 rfl (by decide) _ _ _ rfl hrow ⟨_, 0, none⟩ 1 1 [.string pg] rfl rfl (cell_one_new _ _ _) (fun x hx => by simp at hx; subst hx; rfl) (by omega) (by unfold maxLen; omega) (by omega) (by simp; omega) _ rfl ?_)
          intro g5 c5 u5 ho5 hg5 hgo5 hlt5
          have HS5 : Hid (Strs u5 w.heap.size (.slice (some ⟨g5, 0, none⟩) (ss.length + 1) c5) ((gs.take (k + 1)).map pbT)) := by rw [HT.out]; exact Strs.snoc ho5
          have HB5 : Hid (Below w.heap.size w u5) := Below.grown HBA.out hg5 HBA.out.size (fun i hj => (World.ownsRow.lt hrow i hj).1)
          clear ho5 hg5 hrow HB2 HBA
          go_wp2
          exact ⟨⟨k + 1, by omega, by go_num, HS5.out, HO2.out, HB5.out⟩, by simp [intOf]; omega⟩
      · have hkz : k = gs.length := by omega
        subst hkz
        rw [List.take_length] at hS
        have HRE : Hid (R = some (gs.map pbT)) := by
          show _ = _
          rw [← HR.out]
          exact bytF_all h40 (fun j g hg => ho j g (List.getElem?_eq_some_iff.1 hg).1 hg)
        have HS : Hid (Strs wr w.heap.size _ (gs.map pbT)) := hS
        have HB : Hid (Below w.heap.size w wr) := hb
        clear hS ho hb
        go_wp2
        go_ret2
        rw [HRE.out]
        exact ⟨_, rfl, HS.out, HB.out⟩
  · have n40 : (40 : Int) < (gs.length : Int) := by omega
    have HRE : Hid (R = none) := by show _ = _; rw [← HR.out]; exact bytF_long h40
    clear hq
    go_enter Tryd.func29, Tryd.ntmps29
    go_wp2
    go_ret2
    rw [HRE.out]
    exact ⟨_, rfl, World.ownsRow_nil _ _ _ _, Below.refl _ _⟩
end Go.Proofs.YticogafoopkflaaDoor

namespace Go.Proofs.YticogafoopkflaaDoor
open Go.RowKit

/-- How many rows the first k pages have. -/
def totK (gs : List (List Rw)) (k : Nat) : Nat := (gs.take k).flatten.length

theorem totK_succ {gs : List (List Rw)} {k : Nat} {g : List Rw} (h : gs[k]? = some g) : totK gs (k + 1) = totK gs k + g.length := by
  unfold totK
  rw [List.take_add_one, h]
  simp

theorem totK_le {gs : List (List Rw)} (h : ∀ g ∈ gs, g.length ≤ 255) : ∀ k, totK gs k ≤ 255 * k
  | 0 => by simp [totK]
  | k + 1 => by
    have ih := totK_le h k
    cases hk : gs[k]? with
    | none =>
      have hle : gs.length ≤ k := List.getElem?_eq_none_iff.1 hk
      have : totK gs (k + 1) = totK gs k := by unfold totK; rw [List.take_of_length_le (by omega), List.take_of_length_le hle]
      omega
    | some g =>
      have := h g (List.mem_of_getElem? hk)
      rw [totK_succ hk]
      omega

def TlRel (w : World) (gs : List (List Rw)) (v n i : Value) (wr : World) : Prop :=
  ∃ k : Nat, k ≤ gs.length ∧ i = .int .i64 (k : Int) ∧ n = .int .i64 (totK gs k : Int) ∧ Strs wr w.heap.size v ((gs.take k).map pgB) ∧ Below w.heap.size w wr

/-- Whether pages and rows are no more than may be. -/
def tellOk (gs : List (List Rw)) : Bool := decide (gs.length ≤ 40) && decide (gs.flatten.length ≤ 60)

set_option maxRecDepth 100000 in
set_option maxHeartbeats 4000000 in
theorem tell_any {w : World} {v : Value} {gs : List (List Rw)} (hV : BkV w v gs) (hl : gs.length ≤ 1000) (hz : ∀ g ∈ gs, RwB g) :
    Calls Tryd.prog 48 #[v] w fun e w' => ∃ v', e = .returned (.tuple #[v', .bool (tellOk gs)]) ∧ Strs w' w.heap.size v' (gs.map pgB) ∧ Below w.heap.size w w' := by
  obtain ⟨a, c, rfl, hq⟩ := hV
  have HV : Hid (BkV w (.slice a gs.length c) gs) := ⟨a, c, rfl, hq⟩
  have HRB : Hid (∀ g ∈ gs, RwB g) := hz
  have HTK : Hid (∀ k, totK gs k ≤ 255 * k) := totK_le (fun g hg => (hz g hg).1)
  have HTA : Hid (totK gs gs.length = gs.flatten.length) := by show (gs.take gs.length).flatten.length = _; rw [List.take_length]
  obtain ⟨i0, hi0, hy0, hy1, hy2⟩ := info_parts info_strB
  obtain ⟨ok, HOK⟩ : ∃ ok, Hid (tellOk gs = ok) := ⟨_, rfl⟩
  rw [HOK.out]
  clear hq hz
  go_enter Tryd.func48, Tryd.ntmps48
  go_wp2_with fail
  go_loopw [4, 5, 10] (fun v n i wr => TlRel w gs v n i wr) (fun _ _ i _ => gs.length - (intOf i).toNat)
  case atStart => exact ⟨0, Nat.zero_le _, rfl, rfl, World.ownsRow_nil _ _ _ _, Below.refl _ _⟩
  case round =>
    obtain ⟨k, hk, rfl, rfl, hS, hb⟩ := hrel
    by_cases hlt : k < gs.length
    · obtain ⟨g, hg⟩ : ∃ g, gs[k]? = some g := ⟨_, List.getElem?_eq_getElem hlt⟩
      obtain ⟨a', c', hv', hq⟩ := HV.out.below hb (Nat.le_refl _)
      injection hv' with q1 _ q3
      subst q1
      subst q3
      obtain ⟨b, o, ax, cx, rfl, d1, hsl⟩ := hq k g hg
      have hbl := rw_cell_lt d1
      have hk8 : (k : Int) < (gs.length : Int) := by omega
      have hgb := HRB.out g (List.mem_of_getElem? hg)
      have hg8 := hgb.1
      have PB : Calls Tryd.prog 47 #[.slice ax g.length cx] wr fun e w' => e = .returned (.string (pgB g)) ∧ Below wr.heap.size wr w' := specPage_any (cap := cx) hsl hgb
      have HT : Hid ((gs.take (k + 1)).map pgB = (gs.take k).map pgB ++ [pgB g]) := map_take_succ pgB hg
      have hlt1 : ((gs.take k).map pgB).length ≤ 1000 := by simp; omega
      have hts := totK_succ hg
      have htk := HTK.out k
      have HTS : Hid (totK gs (k + 1) = totK gs k + g.length) := hts
      obtain ⟨tk, HK⟩ : ∃ tk, Hid (totK gs k = tk) := ⟨_, rfl⟩
      rw [HK.out] at htk HTS
      rw [HK.out]
      obtain ⟨ss, HSS⟩ : ∃ ss, Hid ((gs.take k).map pgB = ss) := ⟨_, rfl⟩
      rw [HSS.out] at HT hlt1 hS
      obtain ⟨a4, c4, hv4⟩ := strs_formB hS
      subst hv4
      have HS : Hid (Strs wr w.heap.size (.slice a4 ss.length c4) ss) := hS
      have HB : Hid (Below w.heap.size w wr) := hb
      clear hq hsl hg hS hb hgb hts
      generalize pgB g = pg at *
      go_wp2_with fail
      refine PB.mono ?_
      rintro e w2 ⟨rfl, b2⟩
      have HB2 : Hid (Below w.heap.size w w2) := HB.out.trans (b2.mono HB.out.size)
      have bA := (Below.refl w2.heap.size w2).alloc (Nat.le_refl _) (.cells #[.string pg] 9)
      have hrow := (HS.out.below b2).below bA
      have HBA : Hid (Below w.heap.size w _) := HB2.out.trans (bA.mono HB2.out.size)
      have hsU := HB2.out.size
      unfold Strs at hrow
      clear PB b2 HS HB bA
      go_wp2_with (at_builtin; refine wpList_append_lies _ rfl _ _ 25 rfl w.heap.size 9 i0 _ 1 16 Tryd.underlying25 hi0 hy0 hy1 hy2 rfl (by decide) _ _ _ rfl hrow ⟨_, 0, none⟩ 1 1 [.string pg] rfl rfl (cell_one_new _ _ _) (fun x hx => by simp at hx; subst hx; rfl) (by omega) (by unfold maxLen; omega) (by omega) (by simp; omega) _ rfl ?_)
      intro g5 c5 u5 ho5 hg5 hgo5 hlt5
      have HS5 : Hid (Strs u5 w.heap.size (.slice (some ⟨g5, 0, none⟩) (ss.length + 1) c5) ((gs.take (k + 1)).map pgB)) := by rw [HT.out]; exact Strs.snoc ho5
      have HB5 : Hid (Below w.heap.size w u5) := Below.grown HBA.out hg5 HBA.out.size (fun i hj => (World.ownsRow.lt hrow i hj).1)
      clear ho5 hg5 hrow HB2 HBA
      go_wp2
      exact ⟨⟨k + 1, by omega, by go_num, by rw [HTS.out]; go_num, HS5.out, HB5.out⟩, by simp [intOf]; omega⟩
    · have hkz : k = gs.length := by omega
      subst hkz
      rw [List.take_length] at hS
      have htk := HTK.out gs.length
      rw [HTA.out] at htk
      rw [HTA.out]
      have HS : Hid (Strs wr w.heap.size u4 (gs.map pgB)) := hS
      have HB : Hid (Below w.heap.size w wr) := hb
      have HOE : Hid (ok = (decide (gs.length ≤ 40) && decide (gs.flatten.length ≤ 60))) := by show _ = _; rw [← HOK.out]; rfl
      generalize gs.flatten.length = fl at *
      clear hS hb
      by_cases h40 : gs.length ≤ 40
      · have h48 : (gs.length : Int) ≤ 40 := by omega
        by_cases h60 : fl ≤ 60
        · have h68 : (fl : Int) ≤ 60 := by omega
          have HO2 : Hid (ok = true) := by show _ = _; rw [HOE.out, decide_eq_true h40, decide_eq_true h60]; rfl
          clear HOE
          go_wp2
          go_ret2
          rw [HO2.out]
          exact ⟨_, rfl, HS.out, HB.out⟩
        · have h68 : ¬ (fl : Int) ≤ 60 := by omega
          have HO2 : Hid (ok = false) := by show _ = _; rw [HOE.out, decide_eq_false h60, Bool.and_false]
          clear HOE
          go_wp2
          go_ret2
          rw [HO2.out]
          exact ⟨_, by simp, HS.out, HB.out⟩
      · have h48 : ¬ (gs.length : Int) ≤ 40 := by omega
        have HO2 : Hid (ok = false) := by show _ = _; rw [HOE.out, decide_eq_false h40]; rfl
        clear HOE
        go_wp2
        go_ret2
        rw [HO2.out]
        exact ⟨_, by simp, HS.out, HB.out⟩

theorem below_drewN7 {B : Nat} {w u : World} (h : Below B w u) (n m : Nat) : Below B w ((u.drewN n).drewN m) := ⟨h.os, h.tape, h.output, h.size, h.block⟩

theorem tw_le {gs : List (List Rw)} {key : ByteArray} : plF gs key ≤ gs.length := (plF_is key).1

set_option maxRecDepth 100000 in
set_option maxHeartbeats 4000000 in
theorem place_any {w : World} {v : Value} {gs : List (List Rw)} (key : ByteArray) (hV : BkV w v gs) (hl : gs.length ≤ 1048576) (hz : ∀ g ∈ gs, 0 < g.length ∧ g.length ≤ 1048576) :
    Calls Tryd.prog 49 #[v, .string key] w fun e w' => e = .returned (.int .i64 (plF gs key : Int)) ∧ Below w.heap.size w w' := by
  obtain ⟨a, c, rfl, hq⟩ := hV
  have HQ : Hid _ := hq
  have HZ : Hid (∀ g ∈ gs, 0 < g.length ∧ g.length ≤ 1048576) := hz
  obtain ⟨P, HP⟩ : ∃ P, Hid (plF gs key = P) := ⟨_, rfl⟩
  have hpis := plF_is (gs := gs) key
  rw [HP.out] at hpis ⊢
  obtain ⟨p1, p2, p3⟩ := hpis
  have HP2 : Hid (∀ (i : Nat) (a : List Rw), i < P → gs[i]? = some a → ltK (endK a) key = true) := p2
  have HP3 : Hid (∀ a, gs[P]? = some a → ltK (endK a) key = false) := p3
  clear hq hz p2 p3
  go_enter Tryd.func49, Tryd.ntmps49
  go_wp2_with fail
  go_loopw [5] (fun i wr => ∃ k q : Nat, k ≤ P ∧ i = .int .i64 (k : Int) ∧ wr = w.drewN q) (fun i _ => gs.length - (intOf i).toNat)
  case atStart => exact ⟨0, 0, Nat.zero_le _, rfl, rfl⟩
  case round =>
    obtain ⟨k, q, hk, rfl, rfl⟩ := hrel
    by_cases hlt : k < gs.length
    · obtain ⟨g, hg⟩ : ∃ g, gs[k]? = some g := ⟨_, List.getElem?_eq_getElem hlt⟩
      obtain ⟨b, o, ax, cx, rfl, d1, hsl⟩ := HQ.out k g hg
      obtain ⟨g0, g1⟩ := HZ.out g (List.mem_of_getElem? hg)
      have hbl := rw_cell_lt d1
      have hk8 : (k : Int) < (gs.length : Int) := by omega
      obtain ⟨x, hx⟩ : ∃ x, g[g.length - 1]? = some x := ⟨_, List.getElem?_eq_getElem (by omega)⟩
      rcases hsl with h | ⟨b2, o2, rfl, hE⟩
      · rw [h] at g0; simp at g0
      obtain ⟨e0, _, _⟩ := hE _ x hx
      have hb2 := rw_cell_lt e0
      have hek := endK_at hx
      have hm1 : (g.length : Int) - 1 = ((g.length - 1 : Nat) : Int) := by omega
      have hm2 : ((g.length - 1 : Nat) : Int) < (g.length : Int) := by omega
      by_cases hkP : k = P
      · have hlk : ltK x.key key = false := by rw [← hek]; exact HP3.out g (by rw [← hkP]; exact hg)
        unfold ltK at hlk
        have HKP : Hid (k = P) := hkP
        clear hg hE hx hek HQ HZ hkP
        go_wp2
        go_quiet (fail)
        go_wp2
        go_ret
        exact ⟨by rw [← HKP.out]; rfl, below_drewN7 (Below.refl _ _) _ _⟩
      · have hlk : ltK x.key key = true := by rw [← hek]; exact HP2.out k g (by omega) hg
        unfold ltK at hlk
        clear hg hE hx hek
        go_wp2
        go_quiet (fail)
        go_wp2
        exact ⟨⟨k + 1, _, by omega, by go_num, rfl⟩, by simp [intOf]; omega⟩
    · have HKP : Hid (k = P) := by show _ = _; omega
      clear HQ HZ
      go_wp2
      have d1 : decide ((k : Int) < (gs.length : Int)) = false := decide_eq_false (by omega)
      go_quiet (fail)
      go_wp2
      go_ret
      exact ⟨by rw [← HKP.out]; rfl, below_drewN7 (Below.refl _ _) _ _⟩
end Go.Proofs.YticogafoopkflaaDoor

namespace Go.Proofs.YticogafoopkflaaDoor

theorem okPB_book {g : List Rw} (h1 : goodR g = true) (h0 : 0 < g.length) : okPB g = decide (lnP g ≤ 300) := by
  have h2 : (g.length == 0) = false := by simp; intro e; rw [e] at h0; simp at h0
  unfold okPB lnP
  rw [h1, h2]
  simp

theorem pbT_pg {g : List Rw} (h : okPB g = true) : pbT g = pgB g := by unfold pbT pgB; rw [if_pos h]

/-- The bytes of a book are its pages. -/
theorem bytF_book {b : List (List Rw)} (hb : Book b) : bytF b = ansG b := by
  have hiff : (b.all okPB = true) ↔ ((b.all fun g => decide (lnP g ≤ 300)) = true) := by
    rw [List.all_eq_true, List.all_eq_true]
    constructor
    · intro h g hg
      have := h g hg
      rw [okPB_book (hb.good g hg).1 (hb.good g hg).2] at this
      exact this
    · intro h g hg
      rw [okPB_book (hb.good g hg).1 (hb.good g hg).2]
      exact h g hg
  unfold bytF ansG
  by_cases h : b.length ≤ 40 ∧ (b.all okPB) = true
  · rw [if_pos h, if_pos ⟨h.1, hiff.1 h.2⟩]
    congr 1
    exact List.map_congr_left fun g hg => pbT_pg (List.all_eq_true.1 h.2 g hg)
  · rw [if_neg h, if_neg (fun c => h ⟨c.1, hiff.2 c.2⟩)]

theorem okPB_one (x : Rw) : okPB [x] = (goodR [x] && decide (lnP [x] ≤ 300)) := by unfold okPB lnP; simp
theorem okPB_sz {x : Rw} (h : okPB [x] = true) : goodR [x] = true ∧ sz1 x = true ∧ lnP [x] ≤ 300 := by
  rw [okPB_one, Bool.and_eq_true, decide_eq_true_eq] at h
  exact ⟨h.1, (goodR_iff.1 h.1).2.1 x (by simp), h.2⟩

/-- What PutInPages answers. -/
def putA (ss : List ByteArray) (x : Rw) : Option (List ByteArray) :=
  match bookF ss with
  | none => none
  | some gs => if okPB [x] = true then (if gs.length = 0 then some [pgB [x]] else if (putG gs x).flatten.length ≤ 60 then ansG (putG gs x) else none) else none

theorem putA_bad {ss : List ByteArray} {x : Rw} (h : bookF ss = none) : putA ss x = none := by unfold putA; rw [h]
theorem putA_no {ss : List ByteArray} {x : Rw} (h : okPB [x] = false) : putA ss x = none := by
  unfold putA
  cases bookF ss with
  | none => rfl
  | some gs => simp [h]
theorem putA_one {ss : List ByteArray} {x : Rw} {gs : List (List Rw)} (h : bookF ss = some gs) (hx : okPB [x] = true) (h0 : gs.length = 0) : putA ss x = some [pgB [x]] := by
  unfold putA
  rw [h]
  simp only []
  rw [if_pos hx, if_pos h0]
theorem putA_full {ss : List ByteArray} {x : Rw} {gs : List (List Rw)} (h : bookF ss = some gs) (hx : okPB [x] = true) (h0 : gs.length ≠ 0) (hf : ¬ (putG gs x).flatten.length ≤ 60) : putA ss x = none := by
  unfold putA
  rw [h]
  simp only []
  rw [if_pos hx, if_neg h0, if_neg hf]
theorem putA_more {ss : List ByteArray} {x : Rw} {gs : List (List Rw)} (h : bookF ss = some gs) (hx : okPB [x] = true) (h0 : gs.length ≠ 0) (hf : (putG gs x).flatten.length ≤ 60) : putA ss x = ansG (putG gs x) := by
  unfold putA
  rw [h]
  simp only []
  rw [if_pos hx, if_neg h0, if_pos hf]

theorem ansG_len (b : List (List Rw)) : ((ansG b).getD []).length ≤ 40 := by
  cases h : ansG b with
  | none => simp
  | some ss =>
    obtain ⟨rfl, h2⟩ := ansG_some h
    simpa using h2

theorem putA_len (ss : List ByteArray) (x : Rw) : ((putA ss x).getD []).length ≤ 40 := by
  unfold putA
  split
  · simp
  · split
    · split
      · simp
      · split
        · exact ansG_len _
        · simp
    · simp

/-- The page that a row is put into, and the parts of it. -/
theorem put_page {gs : List (List Rw)} {x : Rw} (hb : Book gs) (hl : ∀ g ∈ gs, lnP g ≤ 300) (h0 : gs.length ≠ 0) (hx : okPB [x] = true) :
    ∃ l, atP gs x.key < gs.length ∧ gs[atP gs x.key]? = some l ∧ Rise l ∧ 0 < l.length ∧ l.length ≤ 59 ∧ RwB l ∧ RwB (insR l x) ∧ 0 < (insR l x).length ∧ (insR l x).length ≤ 60 ∧ (∀ y ∈ insR l x, lnP [y] ≤ 300) ∧ 0 < (partF (insR l x)).length ∧ (partF (insR l x)).length ≤ 60 ∧ putG gs x = gs.take (atP gs x.key) ++ (partF (insR l x) ++ gs.drop (atP gs x.key + 1)) := by
  obtain ⟨_, hx1, hx2⟩ := okPB_sz hx
  have hal : atP gs x.key < gs.length := by unfold atP; omega
  obtain ⟨l, hl'⟩ : ∃ l, gs[atP gs x.key]? = some l := ⟨_, List.getElem?_eq_getElem hal⟩
  have hlm := List.mem_of_getElem? hl'
  obtain ⟨lg, l0⟩ := hb.good l hlm
  have lr := goodR_rise lg
  have l59 := fit59 lr (hl l hlm)
  have hil := insR_len (x := x) lr
  have hal1 : ∀ y ∈ insR l x, lnP [y] ≤ 300 := fun y hy => by
    rcases insR_mem hy with rfl | hy
    · exact hx2
    · exact alone_fit hy (hl l hlm)
  have hi0 : 0 < (insR l x).length := by unfold insR; rw [List.length_append, List.length_append, List.length_singleton]; omega
  have hRB := goodR_RwB lg
  have hRI : RwB (insR l x) := ⟨by omega, fun y hy => by
    rcases insR_mem hy with rfl | hy
    · unfold sz1 at hx1
      simp only [Bool.and_eq_true, decide_eq_true_eq] at hx1
      omega
    · exact hRB.2 y hy⟩
  have hp0 : 0 < (partF (insR l x)).length := by
    by_cases hf : lnP (insR l x) ≤ 300
    · rw [partF_fit hf]; simp
    · rw [partF_more hf]; simp
  have hpl := partF_len (insR l x) hi0 hal1
  refine ⟨l, hal, hl', lr, l0, l59, hRB, hRI, hi0, by omega, hal1, hp0, by omega, ?_⟩
  unfold putG
  rw [hl']
  rfl

/-- The rows of a book that a row was put into. -/
theorem putG_sz {gs : List (List Rw)} {x : Rw} (hb : Book (putG gs x)) : ∀ g ∈ putG gs x, RwB g ∧ g.length ≤ 60 := fun g hg => ⟨goodR_RwB (hb.good g hg).1, goodR_len (hb.good g hg).1⟩
end Go.Proofs.YticogafoopkflaaDoor
