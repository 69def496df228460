/- Texts of mine laid together: PDropA, Repl6, Cell6, Del6. -/
import Derived.Test.YticogafoopkflaaDoorMD3
import Derived.Test.YticogafoopkflaaDoorRepl6a
import Derived.Deep.RegionLaw
import Derived.Deep.Cut
import Derived.BigQuiet
import Derived.Deep.QuietTactic
import Derived.Laws.IdiomCopy
import Derived.Lib.SliceRun
import Derived.Test.YticogafoopkflaaDoorMD2
namespace Go.Proofs.YticogafoopkflaaDoor

/-- Rows without the one with the key. -/
def dropR (l : List Rw) (key : ByteArray) : List Rw := l.take (placeF l key) ++ l.drop (placeF l key + 1)

theorem ltK_ne {a b : ByteArray} (h : ltK a b = true) : a ≠ b := fun e => by
  rw [e, ltK_irr] at h
  cases h

theorem there_at {l : List Rw} {key : ByteArray} (ht : thereF l key = true) : (rwAt l (placeF l key)).key = key := by
  unfold thereF at ht
  rw [Bool.and_eq_true, decide_eq_true_eq, decide_eq_true_eq, cmpK_zero] at ht
  exact ht.2

theorem filter_there {l : List Rw} {key : ByteArray} (hr : Rise l) (ht : thereF l key = true) : l.filter (fun y => decide (y.key ≠ key)) = dropR l key := by
  have hp := (rowIn_there hr ht).2
  have h1 := take_low (key := key) hr
  have h2 := drop_high (key := key) hr
  rw [ht] at h2
  simp only [if_true] at h2
  have h3 := there_at ht
  have hsplit : l = l.take (placeF l key) ++ (rwAt l (placeF l key) :: l.drop (placeF l key + 1)) := by
    conv => lhs; rw [← List.take_append_drop (placeF l key) l]
    congr 1
    rw [List.drop_eq_getElem_cons hp]
    congr 1
    unfold rwAt
    rw [List.getElem?_eq_getElem hp]
    rfl
  unfold dropR
  generalize placeF l key = p at *
  rw [hsplit] 
  rw [List.filter_append, List.filter_cons]
  rw [if_neg (by simp only [h3]; simp)]
  have e1 : (l.take p).filter (fun y => decide (y.key ≠ key)) = l.take p := List.filter_eq_self.2 fun y hy => decide_eq_true (ltK_ne (h1 y hy))
  have e2 : (l.drop (p + 1)).filter (fun y => decide (y.key ≠ key)) = l.drop (p + 1) := List.filter_eq_self.2 fun y hy => decide_eq_true (ltK_ne (h2 y hy)).symm
  have e3 : (l.take p ++ rwAt l p :: l.drop (p + 1)).take p = l.take p := by rw [← hsplit]
  have e4 : (l.take p ++ rwAt l p :: l.drop (p + 1)).drop (p + 1) = l.drop (p + 1) := by rw [← hsplit]
  rw [e1, e2, e3, e4]

theorem filter_not {l : List Rw} {key : ByteArray} (hr : Rise l) (ht : thereF l key = false) : l.filter (fun y => decide (y.key ≠ key)) = l :=
  List.filter_eq_self.2 fun y hy => decide_eq_true (rowIn_not hr ht y hy)

theorem dropR_len {l : List Rw} {key : ByteArray} (hr : Rise l) (ht : thereF l key = true) : (dropR l key).length = l.length - 1 := by
  have hp := (rowIn_there hr ht).2
  unfold dropR
  rw [List.length_append, List.length_take, List.length_drop]
  omega

theorem dropR_sub (l : List Rw) (key : ByteArray) : (dropR l key).Sublist l := by
  unfold dropR
  conv => rhs; rw [← List.take_append_drop (placeF l key) l]
  refine List.Sublist.append (List.Sublist.refl _) ?_
  rw [show l.drop (placeF l key + 1) = (l.drop (placeF l key)).drop 1 by rw [List.drop_drop]]
  exact List.drop_sublist _ _

def gAt (gs : List (List Rw)) (i : Nat) : List Rw := (gs[i]?).getD []

/-- The pages behind it: k is the page, l its rows by now. -/
def dropG (gs : List (List Rw)) (k : Nat) (l : List Rw) : List (List Rw) :=
  if l.length = 0 then gs.take k ++ gs.drop (k + 1)
  else if 0 < k ∧ lnP (gAt gs (k - 1) ++ l) ≤ 300 then gs.take (k - 1) ++ ([gAt gs (k - 1) ++ l] ++ gs.drop (k + 1))
  else if k + 1 < gs.length ∧ lnP (l ++ gAt gs (k + 1)) ≤ 300 then gs.take k ++ ([l ++ gAt gs (k + 1)] ++ gs.drop (k + 2))
  else gs.take k ++ ([l] ++ gs.drop (k + 1))

theorem dropG_none {gs : List (List Rw)} {k : Nat} {l : List Rw} (h : l.length = 0) : dropG gs k l = gs.take k ++ gs.drop (k + 1) := by unfold dropG; rw [if_pos h]
theorem dropG_ahead {gs : List (List Rw)} {k : Nat} {l a : List Rw} (h : l.length ≠ 0) (hk : 0 < k) (ha : gs[k - 1]? = some a) (hf : lnP (a ++ l) ≤ 300) : dropG gs k l = gs.take (k - 1) ++ ([a ++ l] ++ gs.drop (k + 1)) := by
  have e : gAt gs (k - 1) = a := by unfold gAt; rw [ha]; rfl
  unfold dropG
  rw [if_neg h, e, if_pos ⟨hk, hf⟩]
theorem dropG_next {gs : List (List Rw)} {k : Nat} {l b : List Rw} (h : l.length ≠ 0) (hn : ∀ a, 0 < k → gs[k - 1]? = some a → ¬ lnP (a ++ l) ≤ 300) (hb : gs[k + 1]? = some b) (hf : lnP (l ++ b) ≤ 300) : dropG gs k l = gs.take k ++ ([l ++ b] ++ gs.drop (k + 2)) := by
  have e : gAt gs (k + 1) = b := by unfold gAt; rw [hb]; rfl
  have hkk := (List.getElem?_eq_some_iff.1 hb).1
  unfold dropG
  rw [if_neg h, if_neg, e, if_pos ⟨hkk, hf⟩]
  rintro ⟨h1, h2⟩
  have : gs[k - 1]? = some (gAt gs (k - 1)) := by unfold gAt; rw [List.getElem?_eq_getElem (by omega)]; rfl
  exact hn _ h1 this h2
theorem dropG_same {gs : List (List Rw)} {k : Nat} {l : List Rw} (h : l.length ≠ 0) (hn : ∀ a, 0 < k → gs[k - 1]? = some a → ¬ lnP (a ++ l) ≤ 300) (hkl : k < gs.length) (hm : ∀ b, gs[k + 1]? = some b → ¬ lnP (l ++ b) ≤ 300) : dropG gs k l = gs.take k ++ ([l] ++ gs.drop (k + 1)) := by
  unfold dropG
  rw [if_neg h, if_neg, if_neg]
  · rintro ⟨h1, h2⟩
    have : gs[k + 1]? = some (gAt gs (k + 1)) := by unfold gAt; rw [List.getElem?_eq_getElem h1]; rfl
    exact hm _ this h2
  · rintro ⟨h1, h2⟩
    have : gs[k - 1]? = some (gAt gs (k - 1)) := by unfold gAt; rw [List.getElem?_eq_getElem (by omega)]; rfl
    exact hn _ h1 this h2

theorem take_pred {gs : List (List Rw)} {k : Nat} {a : List Rw} (hk : 0 < k) (ha : gs[k - 1]? = some a) : gs.take k = gs.take (k - 1) ++ [a] := by
  obtain ⟨j, rfl⟩ : ∃ j, k = j + 1 := ⟨k - 1, by omega⟩
  simp only [Nat.add_sub_cancel] at ha ⊢
  rw [List.take_add_one, ha]
  rfl

theorem drop_succ {gs : List (List Rw)} {k : Nat} {a : List Rw} (ha : gs[k]? = some a) : gs.drop k = a :: gs.drop (k + 1) := by
  obtain ⟨h1, rfl⟩ := List.getElem?_eq_some_iff.1 ha
  exact List.drop_eq_getElem_cons h1

/-- How the pages may have been put together. -/
theorem dropG_cases (gs : List (List Rw)) (k : Nat) (l : List Rw) (hk : k < gs.length) :
    (dropG gs k l).flatten = (gs.take k).flatten ++ (l ++ (gs.drop (k + 1)).flatten) ∧ (∀ g ∈ dropG gs k l, g ∈ gs ∨ (g = l ∧ 0 < l.length) ∨ (lnP g ≤ 300 ∧ 0 < g.length ∧ ∀ x ∈ g, x ∈ l ∨ ∃ q ∈ gs, x ∈ q)) ∧ (dropG gs k l).length ≤ gs.length := by
  by_cases h : l.length = 0
  · rw [dropG_none h]
    obtain rfl : l = [] := List.eq_nil_of_length_eq_zero h
    refine ⟨by simp, fun g hg => ?_, by simp; omega⟩
    rcases List.mem_append.1 hg with hg | hg
    · exact .inl (List.mem_of_mem_take hg)
    · exact .inl (List.mem_of_mem_drop hg)
  · by_cases hA : ∃ a, 0 < k ∧ gs[k - 1]? = some a ∧ lnP (a ++ l) ≤ 300
    · obtain ⟨a, h0, ha, hf⟩ := hA
      rw [dropG_ahead h h0 ha hf]
      refine ⟨by rw [take_pred h0 ha]; simp, fun g hg => ?_, by simp; omega⟩
      rcases List.mem_append.1 hg with hg | hg
      · exact .inl (List.mem_of_mem_take hg)
      · rcases List.mem_append.1 hg with hg | hg
        · simp at hg
          subst hg
          refine .inr (.inr ⟨hf, by simp; omega, fun x hx => ?_⟩)
          rcases List.mem_append.1 hx with hx | hx
          · exact .inr ⟨a, List.mem_of_getElem? ha, hx⟩
          · exact .inl hx
        · exact .inl (List.mem_of_mem_drop hg)
    · have hn : ∀ a, 0 < k → gs[k - 1]? = some a → ¬ lnP (a ++ l) ≤ 300 := fun a h1 h2 h3 => hA ⟨a, h1, h2, h3⟩
      by_cases hB : ∃ b, gs[k + 1]? = some b ∧ lnP (l ++ b) ≤ 300
      · obtain ⟨b, hb, hf⟩ := hB
        rw [dropG_next h hn hb hf]
        have hkk := (List.getElem?_eq_some_iff.1 hb).1
        refine ⟨by rw [drop_succ hb]; simp, fun g hg => ?_, by simp; omega⟩
        rcases List.mem_append.1 hg with hg | hg
        · exact .inl (List.mem_of_mem_take hg)
        · rcases List.mem_append.1 hg with hg | hg
          · simp at hg
            subst hg
            refine .inr (.inr ⟨hf, by simp; omega, fun x hx => ?_⟩)
            rcases List.mem_append.1 hx with hx | hx
            · exact .inl hx
            · exact .inr ⟨b, List.mem_of_getElem? hb, hx⟩
          · exact .inl (List.mem_of_mem_drop hg)
      · rw [dropG_same h hn hk (fun b h1 h2 => hB ⟨b, h1, h2⟩)]
        refine ⟨by simp, fun g hg => ?_, by simp; omega⟩
        rcases List.mem_append.1 hg with hg | hg
        · exact .inl (List.mem_of_mem_take hg)
        · rcases List.mem_append.1 hg with hg | hg
          · simp at hg
            subst hg
            exact .inr (.inl ⟨rfl, by omega⟩)
          · exact .inl (List.mem_of_mem_drop hg)

theorem dropG_book {gs : List (List Rw)} {k : Nat} {l l' : List Rw} (hb : Book gs) (hl : gs[k]? = some l) (hs : l'.Sublist l) : Book (dropG gs k l') := by
  have hk := (List.getElem?_eq_some_iff.1 hl).1
  obtain ⟨c1, c2, _⟩ := dropG_cases gs k l' hk
  have lm := List.mem_of_getElem? hl
  have hpw : PW (dropG gs k l').flatten := by
    rw [c1]
    have h2 : gs.flatten = (gs.take k).flatten ++ (l ++ (gs.drop (k + 1)).flatten) := by
      conv => lhs; rw [← List.take_append_drop k gs, drop_succ hl]
      simp
    have h3 := hb.pw
    rw [h2] at h3
    exact List.Pairwise.sublist (List.Sublist.append (List.Sublist.refl _) (List.Sublist.append hs (List.Sublist.refl _))) h3
  have hg := (List.pairwise_flatten.1 hpw).1
  refine book_of (fun g hgm => ?_) hpw
  rcases c2 g hgm with h | ⟨rfl, h0⟩ | ⟨h1, h0, h2⟩
  · obtain ⟨b1, b2⟩ := hb.good g h
    exact ⟨(goodR_iff.1 b1).1, b2, (goodR_iff.1 b1).2.1⟩
  · obtain ⟨b1, b2⟩ := hb.good l lm
    have := hs.length_le
    exact ⟨by have := (goodR_iff.1 b1).1; omega, h0, fun x hx => (goodR_iff.1 b1).2.1 x (hs.subset hx)⟩
  · have h59 := fit59 (pw_rise (hg g hgm)) h1
    refine ⟨by omega, h0, fun x hx => ?_⟩
    rcases h2 x hx with hx | ⟨q, hq, hx⟩
    · exact (goodR_iff.1 (hb.good l lm).1).2.1 x (hs.subset hx)
    · exact (goodR_iff.1 (hb.good q hq).1).2.1 x hx

/-- What DropFromPages answers. -/
def dropA (ss : List ByteArray) (key : ByteArray) : Option (List ByteArray) :=
  match bookF ss with
  | none => none
  | some gs => if thereF (gAt gs (plF gs key)) key = true ∧ plF gs key < gs.length then ansG (dropG gs (plF gs key) (dropR (gAt gs (plF gs key)) key)) else none

theorem dropA_bad {ss : List ByteArray} {key : ByteArray} (h : bookF ss = none) : dropA ss key = none := by unfold dropA; rw [h]
theorem dropA_end {ss : List ByteArray} {key : ByteArray} {gs : List (List Rw)} (h : bookF ss = some gs) (hk : plF gs key = gs.length) : dropA ss key = none := by
  unfold dropA
  rw [h]
  simp only []
  rw [if_neg]
  rintro ⟨_, h2⟩
  omega
theorem dropA_no {ss : List ByteArray} {key : ByteArray} {gs : List (List Rw)} {l : List Rw} (h : bookF ss = some gs) (hl : gs[plF gs key]? = some l) (ht : thereF l key = false) : dropA ss key = none := by
  unfold dropA
  rw [h]
  simp only []
  rw [if_neg]
  rintro ⟨h2, _⟩
  unfold gAt at h2
  rw [hl] at h2
  simp [ht] at h2
theorem dropA_yes {ss : List ByteArray} {key : ByteArray} {gs : List (List Rw)} {l : List Rw} (h : bookF ss = some gs) (hl : gs[plF gs key]? = some l) (ht : thereF l key = true) : dropA ss key = ansG (dropG gs (plF gs key) (dropR l key)) := by
  have e : gAt gs (plF gs key) = l := by unfold gAt; rw [hl]; rfl
  unfold dropA
  rw [h]
  simp only []
  rw [e, if_pos ⟨ht, (List.getElem?_eq_some_iff.1 hl).1⟩]

theorem dropA_len (ss : List ByteArray) (key : ByteArray) : ((dropA ss key).getD []).length ≤ 40 := by
  unfold dropA
  split
  · simp
  · split
    · exact ansG_len _
    · simp
end Go.Proofs.YticogafoopkflaaDoor

namespace Go.Proofs.YticogafoopkflaaDoor
open Go.RowKit

theorem info_clear : ∃ i, Tryd.prog.info? 23 = some i ∧ i.zero = some (.slice none 0 0) ∧ i.size = 1 := by
  obtain ⟨i0, hi, hzz, hz1, _⟩ := info_parts info_rwT
  exact ⟨i0, hi, hzz, hz1⟩

theorem clear_none (w : World) (a : Option Addr) (c : Nat) (ty : TypeId) : (Builtin.clear_ #[55] ty #[.slice a 0 c]).run Tryd.prog w = .ok (.tuple #[]) w := by
  cases a <;> simp [Builtin.clear_, run_underlying Tryd.underlying55]

set_option maxRecDepth 100000 in
set_option maxHeartbeats 4000000 in
/-- The last one. -/
theorem replace_last {w : World} {B B' g cap i : Nat} {vp : Value} {gs ps : List (List Rw)} {vs vsp : List Value} (hO : OwnT w B (.slice (some ⟨g, 0, none⟩) gs.length cap) gs vs) (hP : OwnT w B' vp ps vsp) (hi : i + 1 = gs.length) (h0 : 0 < ps.length) (hb : gs.length + ps.length ≤ 1000) (hc : gs.length ≤ cap) (hB : B ≤ w.heap.size) :
    Calls Tryd.prog 42 #[.slice (some ⟨g, 0, none⟩) gs.length cap, .int .i64 (i : Int), .int .i64 ((i : Int) + 1), vp] w fun e w' => ∃ v', e = .returned v' ∧ OwnT w' B v' (gs.take i ++ (ps ++ gs.drop (i + 1))) (vs.take i ++ (vsp ++ vs.drop (i + 1))) ∧ w.grownBy w' (some g) := by
  obtain ⟨ap, cp, rfl⟩ := hP.form
  have HC : Hid (OwnT w B (.slice (some ⟨g, 0, none⟩) i cap) (gs.take i) (vs.take i)) := hO.cut i (by omega)
  have HP : Hid (OwnT w B' (.slice ap ps.length cp) ps vsp) := hP
  have htl : (gs.take i).length = i := by rw [List.length_take]; omega
  have HTL : Hid ((gs.take i).length = i) := htl
  have HD : Hid (gs.drop (i + 1) = [] ∧ vs.drop (i + 1) = []) := ⟨List.drop_eq_nil_of_le (by omega), List.drop_eq_nil_of_le (by have := hO.2.1; omega)⟩
  obtain ⟨n, HN⟩ : ∃ n, Hid (gs.length = n) := ⟨_, rfl⟩
  rw [HN.out] at hi hb hc ⊢
  have hi8 : (i : Int) + 1 = (n : Int) := by omega
  have hi9 : ¬ (i : Int) = (i : Int) + 1 := by omega
  have hi7 : (i : Int) + 1 ≤ (cap : Int) := by omega
  have hi6 : (i : Int) ≤ (i : Int) + 1 := by omega
  have hi5 : (i : Int) ≤ (cap : Int) := by omega
  have hto : ((i : Int) + 1).toNat = i + 1 := by omega
  have hck : (cap == i) = false := by simp; omega
  have hnl : ¬ ((i + ps.length : Nat) : Int) < (n : Int) := by omega
  have hnl2 : ¬ (i : Int) + (ps.length : Int) < (n : Int) := by omega
  rw [HD.out.1, HD.out.2, List.append_nil, List.append_nil]
  clear hO hP htl HD
  go_enter Tryd.func42, Tryd.ntmps42
  go_wp2_with (refine wpList_append_T rfl _ _ rfl B B' (.slice (some ⟨g, 0, none⟩) i cap) (.slice ap ps.length cp) (gs.take i) ps (vs.take i) vsp rfl rfl HC.out HP.out h0 (by rw [HTL.out]; omega) hB ?_; intro v2 w2 o2 g2; obtain ⟨a2, c2, hv2⟩ := o2.form; rw [List.length_append, HTL.out] at hv2; subst hv2; have HO2 : Hid (OwnT _ _ _ _ _) := o2; have HG2 : Hid (World.grownBy _ _ _) := g2; clear o2 g2)
  go_ret
  exact ⟨_, rfl, HO2.out, HG2.out⟩

set_option maxRecDepth 100000 in
set_option maxHeartbeats 4000000 in
/-- One in the midst, by one. -/
theorem replace_one {w : World} {B B' g cap i : Nat} {vp : Value} {gs ps : List (List Rw)} {vs vsp : List Value} (hO : OwnT w B (.slice (some ⟨g, 0, none⟩) gs.length cap) gs vs) (hP : OwnT w B' vp ps vsp) (hne : ∀ gp, vp.ownBlock = some gp → gp ≠ g) (hi : i + 1 < gs.length) (h0 : ps.length = 1) (hb : gs.length ≤ 1000) :
    Calls Tryd.prog 42 #[.slice (some ⟨g, 0, none⟩) gs.length cap, .int .i64 (i : Int), .int .i64 ((i : Int) + 1), vp] w fun e w' => ∃ v', e = .returned v' ∧ OwnT w' B v' (gs.take i ++ (ps ++ gs.drop (i + 1))) (vs.take i ++ (vsp ++ vs.drop (i + 1))) ∧ w.grownBy w' (some g) := by
  obtain ⟨g', cap', cur, hv, hBg, hg, hnc, hcm, hcl, htk⟩ := hO.block (by omega)
  obtain ⟨rfl, rfl⟩ : g' = g ∧ cap' = cap := by
    injection hv with q1 _ q3
    injection q1 with q1
    injection q1 with q1
    exact ⟨q1.symm, q3.symm⟩
  obtain ⟨gp, cp, curp, rfl, _, hgp, _, _, _, htp⟩ := hP.block (by omega)
  have hne' : gp ≠ g' := hne gp rfl
  unfold maxLen at hcm
  have hvl := hO.2.1
  have hvpl := hP.2.1
  obtain ⟨n, HN⟩ : ∃ n, Hid (gs.length = n) := ⟨_, rfl⟩
  have HO : Hid (ValsT w vs gs) := hO.2
  have HP : Hid (ValsT w vsp ps) := hP.2
  rw [HN.out] at hi hb hnc htk hvl ⊢
  rw [h0] at hvpl
  rw [h0]
  have HGL : Hid ((gs.take i ++ (ps ++ gs.drop (i + 1))).length = n) := by show _ = _; simp [h0, HN.out]; omega
  have HCUR : Hid (∀ k, k < n → cur[k]? = vs[k]?) := fun k hk => by rw [← htk, List.getElem?_take_of_lt hk]
  have HSP : Hid (∀ j v, vsp[j]? = some v → w.cell? ((⟨gp, 0, none⟩ : Addr).add j) = some v) := fun j v hj => by
    have hjl := (List.getElem?_eq_some_iff.1 hj).1
    have hcc := World.ownsRow.cellAt hP.1 j (by omega)
    rw [add_cell, Nat.zero_add, hcc]
    exact hj
  have HG : Hid (w.heap[g']? = some (.cells cur.toArray 23 (0, 0))) := hg
  have HF : Hid ((splice (splice cur i vsp) (i + 1) (vs.drop (i + 1))).take n = vs.take i ++ (vsp ++ vs.drop (i + 1))) := by
    have e := splice_two cur vsp (vs.drop (i + 1)) i (by rw [List.length_drop]; omega)
    rw [hvpl, List.length_drop, show i + 1 + (vs.length - (i + 1)) = n by omega] at e
    rw [show vs.take i = cur.take i by rw [← htk, List.take_take]; congr 1; omega]
    exact e
  have HCL : Hid ((splice (splice cur i vsp) (i + 1) (vs.drop (i + 1))).length = cap') := by show _ = _; rw [length_splice _ _ _ (by rw [length_splice _ _ _ (by omega), List.length_drop]; omega), length_splice _ _ _ (by omega)]; exact hcl
  have HVS : Hid (∀ v ∈ vs, v.oneCell' = true) := hO.2.one'
  have HVP : Hid (∀ v ∈ vsp, v.oneCell' = true) := hP.2.one'
  have HSZ : Hid (cur.length = cap' ∧ vs.length = n ∧ vsp.length = 1) := ⟨hcl, hvl, hvpl⟩
  have hn8 : ¬ (i : Int) + 1 = (n : Int) := by omega
  have hi9 : ¬ (i : Int) = (i : Int) + 1 := by omega
  have hi7 : (i : Int) + 1 ≤ (cap' : Int) := by omega
  have hi6 : (i : Int) ≤ (i : Int) + 1 := by omega
  have hi5 : (i : Int) ≤ (cap' : Int) := by omega
  have hi4 : (i : Int) + 1 ≤ (n : Int) := by omega
  have hi3 : (i : Int) ≤ (n : Int) := by omega
  have hto : ((i : Int) + 1).toNat = i + 1 := by omega
  have hwr : IntKind.i64.wrap ((i : Int) + 1) = (i : Int) + 1 := by rw [IntKind.wrap_i64]; omega
  have hck : (cap' == i) = false := by simp; omega
  have hck2 : (cap' == i + 1) = false := by simp; omega
  have hz1 : (0 : Int) ≤ (i : Int) + 1 := by omega
  have htot : (i : Int) + 1 + ((n - (i + 1) : Nat) : Int) = (n : Int) := by omega
  have hwn : IntKind.i64.wrap (n : Int) = (n : Int) := by rw [IntKind.wrap_i64]; omega
  have hnc8 : (n : Int) ≤ (cap' : Int) := by omega
  have hnc9 : ¬ (cap' : Int) < (n : Int) := by omega
  clear hO hP hv hcl htk hvl hvpl htp hgp hg
  go_enter Tryd.func42, Tryd.ntmps42
  go_wp2
  go_quiet (fail)
  have hdl : (vs.drop (i + 1)).length = n - (i + 1) := by rw [List.length_drop, HSZ.out.2.1]
  have HDL : Hid ((vs.drop (i + 1)).length = n - (i + 1)) := hdl
  have HS1 : Hid (1 = Nat.min 1 (n - i)) := by show 1 = min 1 (n - i); omega
  obtain ⟨X1, HX1⟩ : ∃ X1, Hid (X1 = splice cur i vsp) := ⟨_, rfl⟩
  obtain ⟨X2, HX2⟩ : ∃ X2, Hid (X2 = splice X1 (i + 1) (vs.drop (i + 1))) := ⟨_, rfl⟩
  have HX1L : Hid (X1.length = cap') := by show _ = _; rw [HX1.out, length_splice _ _ _ (by have := HSZ.out; omega)]; exact HSZ.out.1
  have HSR : Hid (∀ (u : World), u.heap[g']? = some (.cells X1.toArray 23 (0, 0)) → ∀ j v, (vs.drop (i + 1))[j]? = some v → u.cell? ((⟨g', i + 1, none⟩ : Addr).add j) = some v) := fun u hu j v hj => by
    rw [add_cell, cell_list hu, HX1.out, splice_far (by have := HSZ.out; omega) (by have := HSZ.out; omega)]
    rw [List.getElem?_drop] at hj
    have hjl := (List.getElem?_eq_some_iff.1 hj).1
    rw [HCUR.out _ (by have := HSZ.out; omega)]
    exact hj
  have HTY1 : Hid (∀ u : World, u.heap[g']? = some (.cells X1.toArray 23 (0, 0)) → u.heap[g']? = some (.cells X1.toArray 23 (0, 0))) := fun u h => h
  have hgW : (w.drewN nq).heap[g']? = some (.cells cur.toArray 23 (0, 0)) := HG.out
  have hgr0 : w.grownBy (w.drewN nq) (some g') := ⟨rfl, rfl, rfl, Nat.le_refl _, fun _ _ _ => rfl⟩
  clear hdl
  go_wp2_with (refine wpList_copy_G rfl _ _ 55 52 rfl 23 Tryd.underlying55 size_rwT g' i (n - i) (cap' - i) ⟨gp, 0, none⟩ 1 cp rfl rfl cur 23 hgW vsp (by rw [HSZ.out.2.2]; exact HS1.out) HSP.out (by have := HSZ.out; omega) HVP.out ?_; intro w2 hw2 hg2)
  have hw2' : w2.heap[g']? = some (.cells X1.toArray 23 (0, 0)) := by rw [HX1.out]; exact hw2.out
  have HG2 : Hid (w.grownBy w2 (some g')) := hgr0.trans hg2
  have HW2 : Hid (∀ u : World, u.heap = w2.heap → u.heap[g']? = some (.cells X1.toArray 23 (0, 0))) := fun u hu => by rw [hu]; exact hw2'
  have HDM : Hid ((vs.drop (i + 1)).length = Nat.min (n - (i + 1)) (n - (i + 1))) := by show _ = _; rw [HDL.out]; show _ = min _ _; omega
  have HDF : Hid (i + 1 + (vs.drop (i + 1)).length ≤ X1.length) := by show _ ≤ _; rw [HDL.out, HX1L.out]; omega
  have HDV : Hid (∀ v ∈ vs.drop (i + 1), v.oneCell' = true) := fun v hv => HVS.out v (List.mem_of_mem_drop hv)
  have HEND : Hid (∀ u : World, u.heap[g']? = some (.cells (splice X1 (i + 1) (vs.drop (i + 1))).toArray 23 (0, 0)) → w.grownBy u (some g') → OwnT u B (.slice (some ⟨g', 0, none⟩) n cap') (gs.take i ++ (ps ++ gs.drop (i + 1))) (vs.take i ++ (vsp ++ vs.drop (i + 1)))) := fun u hu hgu => by
    have hv : ValsT u (vs.take i ++ (vsp ++ vs.drop (i + 1))) (gs.take i ++ (ps ++ gs.drop (i + 1))) := ((HO.out.take i).app (HP.out.app (HO.out.drop (i + 1)))).kept hgu HG.out
    have e := ownT_of (gs := gs.take i ++ (ps ++ gs.drop (i + 1))) (cap := cap') hBg hu (by rw [HGL.out]; exact hnc) (by unfold maxLen; omega) (by rw [HX1.out]; exact HCL.out) (by rw [HGL.out, HX1.out]; exact HF.out) hv
    rw [HGL.out] at e
    exact e
  obtain ⟨D, HDE⟩ : ∃ D, Hid (vs.drop (i + 1) = D) := ⟨_, rfl⟩
  rw [HDE.out] at HDM HDF HDV HSR
  clear hw2 hg2 hgW hgr0 hw2' HX1 HX2 HF HCL HCUR HVP HVS HSP HDL HS1 HTY1
  have hck3 : ¬ cap' = i + 1 := by omega
  go_region_law (refine step_copy_G rfl (.tmp 103) (.tmp 106) 55 55 rfl 23 Tryd.underlying55 size_rwT g' (i + 1) (n - (i + 1)) (cap' - (i + 1)) ⟨g', i + 1, none⟩ (n - (i + 1)) (cap' - (i + 1)) (by kernel_rfl) (by kernel_rfl) X1 23 (HW2.out _ rfl) D HDM.out (HSR.out _ (HW2.out _ rfl)) HDF.out HDV.out ?_; intro w3 hw3 hg3)
  all_goals
    have HG3 : Hid (w.grownBy w3 (some g')) := HG2.out.trans ⟨hg3.os, hg3.tape, hg3.output, hg3.size, hg3.block⟩
    have HE : Hid (OwnT _ _ _ _ _) := HEND.out w3 (by rw [HDE.out]; exact hw3.out) HG3.out
    clear hw3 hg3
    have CLN := fun (u : World) (a : Option Addr) (c : Nat) => clear_none u a c 0
    by_cases hcn : cap' = n
    · subst hcn
      go_wp2
      go_ret
      exact ⟨_, rfl, HE.out, HG3.out⟩
    · have hcn2 : (cap' == n) = false := by simpa using hcn
      go_wp2
      go_ret
      exact ⟨_, rfl, HE.out, HG3.out⟩
theorem sizeOf_rwT : ∀ w, (Go.sizeOf 23).run Tryd.prog w = .ok 1 w := by
  obtain ⟨i0, hi, hzz, hz1⟩ := info_clear
  intro w
  simp [sizeOf, typeInfo, hi, hz1]

theorem overlaps_no {u : World} {g' gp off la ca lb cb : Nat} {X Y : List Value} (hg : u.heap[g']? = some (.cells X.toArray 23 (0, 0))) (hp : u.heap[gp]? = some (.cells Y.toArray 23 (0, 0))) (hne : gp ≠ g') (hY : Y.length ≠ 0) :
    (callFunc 73 #[.slice (some ⟨g', off, none⟩) la ca, .slice (some ⟨gp, 0, none⟩) lb cb]).run Tryd.prog u = .ok (.value (.bool false)) u := by
  rw [run_callFunc_extern Tryd.func73 (by kernel_rfl) (by kernel_rfl) (by kernel_rfl) (e := Extern.SlicesOverlaps.overlaps #[52, 52] #[4]) (by kernel_rfl),
    Lib.run_overlaps_apart u 52 4 23 Tryd.underlying52 1 sizeOf_rwT ⟨g', off, none⟩ ⟨gp, 0, none⟩ la ca lb cb (fun e => hne e.symm) 23 23 X.length Y.length (by simp [World.shape?, hg]) (by simp [World.shape?, hp]) hY (by simp [World.frozen?, hg]) (by simp [World.frozen?, hg])]
  rfl

set_option maxRecDepth 100000 in
set_option maxHeartbeats 4000000 in
/-- One in the midst, by more, where there is room. -/
theorem replace_more {w : World} {B B' g cap i : Nat} {vp : Value} {gs ps : List (List Rw)} {vs vsp : List Value} (hO : OwnT w B (.slice (some ⟨g, 0, none⟩) gs.length cap) gs vs) (hP : OwnT w B' vp ps vsp) (hne : ∀ gp, vp.ownBlock = some gp → gp ≠ g) (hi : i + 1 < gs.length) (h0 : 2 ≤ ps.length) (hb : gs.length + ps.length ≤ 1000) (hcap : gs.length - 1 + ps.length ≤ cap) :
    Calls Tryd.prog 42 #[.slice (some ⟨g, 0, none⟩) gs.length cap, .int .i64 (i : Int), .int .i64 ((i : Int) + 1), vp] w fun e w' => ∃ v', e = .returned v' ∧ OwnT w' B v' (gs.take i ++ (ps ++ gs.drop (i + 1))) (vs.take i ++ (vsp ++ vs.drop (i + 1))) ∧ w.grownBy w' (some g) := by
  obtain ⟨g', cap', cur, hv, hBg, hg, hnc, hcm, hcl, htk⟩ := hO.block (by omega)
  obtain ⟨rfl, rfl⟩ : g' = g ∧ cap' = cap := by
    injection hv with q1 _ q3
    injection q1 with q1
    injection q1 with q1
    exact ⟨q1.symm, q3.symm⟩
  obtain ⟨gp, cp, curp, rfl, _, hgp, hpc, _, hpl, htp⟩ := hP.block (by omega)
  have hne' : gp ≠ g' := hne gp rfl
  unfold maxLen at hcm
  have hvl := hO.2.1
  have hvpl := hP.2.1
  obtain ⟨n, HN⟩ : ∃ n, Hid (gs.length = n) := ⟨_, rfl⟩
  have HO : Hid (ValsT w vs gs) := hO.2
  have HP : Hid (ValsT w vsp ps) := hP.2
  obtain ⟨m, HM⟩ : ∃ m, Hid (ps.length = m) := ⟨_, rfl⟩
  have hpl0 : curp.length ≠ 0 := by omega
  rw [HN.out] at hi hb hnc htk hvl hcap ⊢
  rw [HM.out] at hvpl h0 hb hcap ⊢
  obtain ⟨q, HQ⟩ : ∃ q, Hid (q = n - (i + 1)) := ⟨_, rfl⟩
  obtain ⟨tot, HT⟩ : ∃ tot, Hid (tot = i + m + q) := ⟨_, rfl⟩
  obtain ⟨im, HIM⟩ : ∃ im, Hid (im = i + m) := ⟨_, rfl⟩
  have HGL : Hid ((gs.take i ++ (ps ++ gs.drop (i + 1))).length = tot) := by show _ = _; rw [HT.out, HQ.out]; simp [HM.out, HN.out]; omega
  have HCUR : Hid (∀ k, k < n → cur[k]? = vs[k]?) := fun k hk => by rw [← htk, List.getElem?_take_of_lt hk]
  have HSP : Hid (∀ j v, vsp[j]? = some v → w.cell? ((⟨gp, 0, none⟩ : Addr).add j) = some v) := fun j v hj => by
    have hjl := (List.getElem?_eq_some_iff.1 hj).1
    have hcc := World.ownsRow.cellAt hP.1 j (by rw [HM.out]; omega)
    rw [add_cell, Nat.zero_add, hcc]
    exact hj
  have HG : Hid (w.heap[g']? = some (.cells cur.toArray 23 (0, 0))) := hg
  have HOV : Hid (∀ (u : World) (off la ca : Nat), u.heap = w.heap → (callFunc 73 #[.slice (some ⟨g', off, none⟩) la ca, .slice (some ⟨gp, 0, none⟩) m cp]).run Tryd.prog u = .ok (.value (.bool false)) u) := fun u off la ca hu => overlaps_no (by rw [hu]; exact hg) (by rw [hu]; exact hgp) hne' hpl0
  have hqv : (vs.drop (i + 1)).length = q := by rw [List.length_drop, HQ.out]; omega
  have hlen3 : i + vsp.length + (vs.drop (i + 1)).length ≤ cur.length := by rw [hqv, hvpl, HQ.out]; omega
  have HF : Hid ((splice (splice cur (i + m) (vs.drop (i + 1))) i vsp).take tot = vs.take i ++ (vsp ++ vs.drop (i + 1))) := by
    have e := splice_two' cur vsp (vs.drop (i + 1)) i hlen3
    rw [hvpl, hqv, ← HT.out] at e
    rw [show vs.take i = cur.take i by rw [← htk, List.take_take]; congr 1; omega]
    exact e
  have HCL : Hid ((splice (splice cur (i + m) (vs.drop (i + 1))) i vsp).length = cap') := by
    show _ = _
    have e1 : (splice cur (i + m) (vs.drop (i + 1))).length = cur.length := length_splice _ _ _ (by omega)
    rw [length_splice _ _ _ (by rw [e1]; omega), e1]
    exact hcl
  have HVS : Hid (∀ v ∈ vs, v.oneCell' = true) := hO.2.one'
  have HVP : Hid (∀ v ∈ vsp, v.oneCell' = true) := hP.2.one'
  have HSZ : Hid (cur.length = cap' ∧ vs.length = n ∧ vsp.length = m ∧ (vs.drop (i + 1)).length = q) := ⟨hcl, hvl, hvpl, hqv⟩
  have hq := HQ.out
  have htt := HT.out
  have hmm := HIM.out
  have hn8 : ¬ (i : Int) + 1 = (n : Int) := by omega
  have hi9 : ¬ (i : Int) = (i : Int) + 1 := by omega
  have hi7 : (i : Int) + 1 ≤ (cap' : Int) := by omega
  have hi6 : (i : Int) ≤ (i : Int) + 1 := by omega
  have hi5 : (i : Int) ≤ (cap' : Int) := by omega
  have hi4 : (i : Int) + 1 ≤ (n : Int) := by omega
  have hi3 : (i : Int) ≤ (n : Int) := by omega
  have hto : ((i : Int) + 1).toNat = i + 1 := by omega
  have hwr : IntKind.i64.wrap ((i : Int) + 1) = (i : Int) + 1 := by rw [IntKind.wrap_i64]; omega
  have hck : (cap' == i) = false := by simp; omega
  have hck2 : (cap' == i + 1) = false := by simp; omega
  have hz1 : (0 : Int) ≤ (i : Int) + 1 := by omega
  have him : (i : Int) + (m : Int) = (im : Int) := by omega
  have htot : (im : Int) + (q : Int) = (tot : Int) := by omega
  have hqq : n - (i + 1) = q := by omega
  have hwim : IntKind.i64.wrap (im : Int) = (im : Int) := by rw [IntKind.wrap_i64]; omega
  have hwt : IntKind.i64.wrap (tot : Int) = (tot : Int) := by rw [IntKind.wrap_i64]; omega
  have htc8 : (tot : Int) ≤ (cap' : Int) := by omega
  have htc9 : ¬ (cap' : Int) < (tot : Int) := by omega
  have hgt : ¬ (im : Int) ≤ (i : Int) + 1 := by omega
  have hit : (i : Int) ≤ (tot : Int) := by omega
  have himt : (im : Int) ≤ (tot : Int) := by omega
  have himc : (im : Int) ≤ (cap' : Int) := by omega
  have hck4 : (cap' == im) = false := by simp; omega
  have hck5 : ¬ cap' = im := by omega
  have hck6 : ¬ cap' = i + 1 := by omega
  have htq : tot - im = q := by omega
  have HHQ : Hid (q = n - (i + 1) ∧ tot = i + m + q ∧ im = i + m) := ⟨hq, htt, hmm⟩
  clear hO hP hv hcl htk hvl hvpl htp hgp hg hq htt hmm hqv hlen3 hpl0 hpl
  go_enter Tryd.func42, Tryd.ntmps42
  go_wp2
  go_quiet (fail)
  have OV := fun (off la ca : Nat) => HOV.out (w.drewN nq) off la ca rfl
  go_wp2
  obtain ⟨D, HDE⟩ : ∃ D, Hid (vs.drop (i + 1) = D) := ⟨_, rfl⟩
  have HDL : Hid (D.length = q) := by show _ = _; rw [← HDE.out]; exact HSZ.out.2.2.2
  have HDM : Hid (D.length = Nat.min q q) := by show _ = min q q; rw [HDL.out]; omega
  have HDF : Hid (im + D.length ≤ cur.length) := by show _ ≤ _; rw [HDL.out, HSZ.out.1]; omega
  have HDV : Hid (∀ v ∈ D, v.oneCell' = true) := fun v hv => HVS.out v (List.mem_of_mem_drop (by rw [HDE.out]; exact hv))
  have HSR : Hid (∀ (u : World), u.heap = w.heap → ∀ j v, D[j]? = some v → u.cell? ((⟨g', i + 1, none⟩ : Addr).add j) = some v) := fun u hu j v hj => by
    rw [add_cell, cell_list (show u.heap[g']? = _ by rw [hu]; exact HG.out)]
    rw [← HDE.out, List.getElem?_drop] at hj
    have hjl := (List.getElem?_eq_some_iff.1 hj).1
    rw [HCUR.out _ (by have := HSZ.out.2.1; omega)]
    exact hj
  have HW0 : Hid (∀ u : World, u.heap = w.heap → u.heap[g']? = some (.cells cur.toArray 23 (0, 0))) := fun u hu => by rw [hu]; exact HG.out
  obtain ⟨X1, HX1⟩ : ∃ X1, Hid (X1 = splice cur im D) := ⟨_, rfl⟩
  have HX1L : Hid (X1.length = cap') := by show _ = _; rw [HX1.out, length_splice _ _ _ HDF.out]; exact HSZ.out.1
  have HEND : Hid (∀ u : World, u.heap[g']? = some (.cells (splice X1 i vsp).toArray 23 (0, 0)) → w.grownBy u (some g') → OwnT u B (.slice (some ⟨g', 0, none⟩) tot cap') (gs.take i ++ (ps ++ gs.drop (i + 1))) (vs.take i ++ (vsp ++ vs.drop (i + 1)))) := fun u hu hgu => by
    have hv : ValsT u (vs.take i ++ (vsp ++ vs.drop (i + 1))) (gs.take i ++ (ps ++ gs.drop (i + 1))) := ((HO.out.take i).app (HP.out.app (HO.out.drop (i + 1)))).kept hgu HG.out
    have hx : splice X1 i vsp = splice (splice cur (i + m) (vs.drop (i + 1))) i vsp := by rw [HX1.out, HDE.out, HHQ.out.2.2]
    have e := ownT_of (gs := gs.take i ++ (ps ++ gs.drop (i + 1))) (cap := cap') hBg hu (by rw [HGL.out]; omega) (by unfold maxLen; omega) (by rw [hx]; exact HCL.out) (by rw [HGL.out, hx]; exact HF.out) hv
    rw [HGL.out] at e
    exact e
  have HS1 : Hid (vsp.length = Nat.min m (tot - i)) := by show _ = min m (tot - i); rw [HSZ.out.2.2.1]; have := HHQ.out; omega
  have HVF : Hid (i + vsp.length ≤ X1.length) := by show _ ≤ _; rw [HX1L.out, HSZ.out.2.2.1]; have := HHQ.out; omega
  have HGP : Hid (gp < w.heap.size) := by
    cases hv0 : vsp with
    | nil => have := HSZ.out.2.2.1; rw [hv0] at this; simp at this; omega
    | cons v0 r0 => exact rw_cell_lt (by have := HSP.out 0 v0 (by rw [hv0]; rfl); rw [add_cell] at this; exact this)
  clear OV HOV HF HCL HCUR HVS
  go_region_law (refine step_copy_G rfl (.tmp 126) (.tmp 129) 55 55 rfl 23 Tryd.underlying55 size_rwT g' im q (cap' - im) ⟨g', i + 1, none⟩ q (cap' - (i + 1)) (by kernel_rfl) (by kernel_rfl) cur 23 (HW0.out _ rfl) D HDM.out (HSR.out _ rfl) HDF.out HDV.out ?_; intro w2 hw2 hg2)
  all_goals
    have hw2' : w2.heap[g']? = some (.cells X1.toArray 23 (0, 0)) := by rw [HX1.out]; exact hw2.out
    have HG2 : Hid (w.grownBy w2 (some g')) := ⟨hg2.os, hg2.tape, hg2.output, hg2.size, hg2.block⟩
    have HSP2 : Hid (∀ j v, vsp[j]? = some v → w2.cell? ((⟨gp, 0, none⟩ : Addr).add j) = some v) := fun j v hj => by
      rw [add_cell]
      have h1 := HSP.out j v hj
      rw [add_cell] at h1
      exact (World.cell?_of_block (HG2.out.block gp HGP.out (fun e => hne' (Option.some.inj e)))).trans h1
    clear hw2 hg2 HSP HX1 HDM HDF HDV HSR HW0
    go_wp2_with (refine wpList_copy_G rfl _ _ 55 52 rfl 23 Tryd.underlying55 size_rwT g' i (tot - i) (cap' - i) ⟨gp, 0, none⟩ m cp rfl rfl X1 23 hw2' vsp HS1.out HSP2.out HVF.out HVP.out ?_; intro w3 hw3 hg3; have HG3 : Hid (w.grownBy w3 (some g')) := HG2.out.trans hg3; have HE : Hid (OwnT _ _ _ _ _) := HEND.out w3 hw3.out HG3.out; clear hw3 hg3)
    go_ret
    exact ⟨_, rfl, HE.out, HG3.out⟩

end Go.Proofs.YticogafoopkflaaDoor

namespace Go.Proofs.YticogafoopkflaaDoor
open Go.RowKit

theorem grown_set6 (w : World) (g k : Nat) (u : Value) : w.grownBy (w.setCell ⟨g, k, none⟩ u) (some g) :=
  ⟨rfl, rfl, rfl, by simp [World.setCell], fun j _ hj => heap_setCell_other w ⟨g, k, none⟩ j u (fun e => hj (by rw [e]))⟩

theorem row_set6 {w : World} {g k : Nat} {cur : List Value} {t : TypeId} (u : Value) (h : w.heap[g]? = some (.cells cur.toArray t (0, 0))) : (w.setCell ⟨g, k, none⟩ u).heap[g]? = some (.cells (cur.set k u).toArray t (0, 0)) := by
  obtain ⟨hlt, hk⟩ := Array.getElem?_eq_some_iff.1 h
  show (w.heap.modify g _)[g]? = _
  rw [Array.getElem?_eq_getElem (by rw [Array.size_modify]; exact hlt), Array.getElem_modify_self, hk]
  simp

theorem splice_nil {α : Type} (L : List α) (o : Nat) : splice L o [] = L := by simp [splice]

theorem splice_cons {α : Type} (L : List α) (o : Nat) (v : α) (vs : List α) (h : o < L.length) : splice (L.set o v) (o + 1) vs = splice L o (v :: vs) := by
  have e1 : (L.set o v).take (o + 1) = L.take o ++ [v] := by
    rw [List.take_add_one, List.getElem?_set_self h, List.take_set_of_le (Nat.le_refl _)]
    rfl
  have e2 : (L.set o v).drop (o + 1 + vs.length) = L.drop (o + 1 + vs.length) := List.drop_set_of_lt (by omega)
  unfold splice
  rw [e1, e2, List.append_assoc, List.length_cons, show o + (vs.length + 1) = o + 1 + vs.length by omega]
  rfl

theorem row_sets6 : ∀ (vs : List Value) (o : Nat) {w : World} {g : Nat} {cur : List Value} {t : TypeId}, w.heap[g]? = some (.cells cur.toArray t (0, 0)) → o + vs.length ≤ cur.length → (w.setCells g o vs).heap[g]? = some (.cells (splice cur o vs).toArray t (0, 0))
  | [], o, w, g, cur, t, h, _ => by rw [splice_nil]; exact h
  | v :: vs, o, w, g, cur, t, h, hl => by
    simp only [List.length_cons] at hl
    have := row_sets6 vs (o + 1) (row_set6 (k := o) v h) (by rw [List.length_set]; omega)
    rw [splice_cons _ _ _ _ (by omega)] at this
    exact this

theorem grown_sets6 : ∀ (vs : List Value) (o : Nat) (w : World) (g : Nat), w.grownBy (w.setCells g o vs) (some g)
  | [], _, _, _ => ⟨rfl, rfl, rfl, Nat.le_refl _, fun _ _ _ => rfl⟩
  | v :: vs, o, w, g => (grown_set6 w g o v).trans (grown_sets6 vs (o + 1) (w.setCell ⟨g, o, none⟩ v) g)

theorem splice_take {α : Type} (L A : List α) (o : Nat) (h : o ≤ L.length) : (splice L o A).take o = L.take o := by
  unfold splice
  rw [List.take_append_of_le_length (by rw [List.length_take]; omega), List.take_take, Nat.min_self]

theorem splice_take2 {α : Type} (L A : List α) (o : Nat) (h : o ≤ L.length) : (splice L o A).take (o + A.length) = L.take o ++ A := by
  unfold splice
  have e : (L.take o).length = o := by rw [List.length_take]; omega
  rw [← List.append_assoc]
  exact List.take_left' (by rw [List.length_append, e])

theorem cells_there {w : World} {g k : Nat} {cur : List Value} {t : TypeId} (h : w.heap[g]? = some (.cells cur.toArray t (0, 0))) (hk : k < cur.length) : (w.cell? ⟨g, k, none⟩).isSome = true ∧ w.frozen? ⟨g, k, none⟩ = false := by
  refine ⟨?_, by simp [World.frozen?, h]⟩
  rw [cell_list h, List.getElem?_eq_getElem hk]
  rfl

/-- Append to a row that has room, of cells that lie anywhere. -/
theorem step_room6 {P : Program} {ops : Array Oper} {o : Oper} {a : Act} {w : World} {K : Act → World → Prop} {Q : Exit → Act → World → Prop} {E : Prop} (hgd : o.guard = none) (s x : Operand) (t : TypeId)
    (ho : o.op = Op.call { callee := Callee.builtin Builtin.append, args := #[s, x], argTypes := #[t, t] }) (e : TypeId) (i : TypeInfo) (size : Nat) (hu : P.underlying t = some (.slice e)) (hi : P.info? e = some i) (hz : i.size = size)
    (g n cap : Nat) (hs : a.eval s = .slice (some ⟨g, 0, none⟩) n cap) (ad : Addr) (m c : Nat) (hx : a.eval x = .slice (some ad) m c) (cur : List Value) (T : TypeId) (hg : w.heap[g]? = some (.cells cur.toArray T (0, 0)))
    (news : List Value) (hn : news.length = m * size) (hsrc : ∀ j u, news[j]? = some u → w.cell? (ad.add j) = some u) (h1 : ∀ u ∈ news, u.oneCell' = true) (hroom : n + m ≤ cap) (hfit : n * size + news.length ≤ cur.length) (tot : Nat) (htot : n + m = tot)
    (h : ∀ w', Hid (w'.heap[g]? = some (.cells (splice cur (n * size) news).toArray T (0, 0))) → w.grownBy w' (some g) → K (a.put o.dst (.slice (some ⟨g, 0, none⟩) tot cap)) w') :
    if Region.wanted o (yielded ops a.tmps) = true then Oper.wp P o a w K Q else E := by
  refine step_append_room hgd s x t ho e i size hu hi hz g 0 n cap hs ad m c news hx hn hsrc h1 hroom (fun j hj => cells_there hg (by omega)) ?_
  rw [htot, Nat.zero_add]
  exact h _ (row_sets6 news _ hg hfit) (grown_sets6 _ _ _ _)

/-- clear of one element. -/
theorem run_clear1 {P : Program} (w : World) (t e ty : TypeId) (z : Value) (zs : List Value) (ht : P.underlying t = some (.slice e)) (hv : ∀ w, (zeroValue e).run P w = .ok z w) (hz : (Builtin.zeroCells z.cells 1).toList = zs) (h1 : ∀ v ∈ zs, v.oneCell' = true) (b o c : Nat)
    (hc : ∀ j, j < zs.length → (w.cell? ⟨b, o + j, none⟩).isSome = true) (hf : ∀ j, j < zs.length → w.frozen? ⟨b, o + j, none⟩ = false) :
    (Builtin.clear_ #[t] ty #[.slice (some ⟨b, o, none⟩) 1 c]).run P w = .ok (.tuple #[]) (w.setCells b o zs) := by
  have hst := run_storeCells_cells (P := P) b o zs 0 w (by simpa using hc) (by simpa using hf) h1
  simp only [Nat.add_zero] at hst
  have hz2 : Builtin.zeroCells z.cells 1 = zs.toArray := by rw [← hz, Array.toArray_toList]
  simp [Builtin.clear_, run_underlying ht, hv, hz2, hst]
end Go.Proofs.YticogafoopkflaaDoor

namespace Go.Proofs.YticogafoopkflaaDoor
open Go.RowKit

theorem zero_row6 : ∀ w, (zeroValue 32).run Tryd.prog w = .ok (.agg #[.string ⟨#[]⟩, .string ⟨#[]⟩, .string ⟨#[]⟩]) w := by
  obtain ⟨i0, hi, hzz, _, _⟩ := info_parts info_rwA
  intro w
  simp [zeroValue, typeInfo, hi, hzz]
theorem zero_row6c : (Builtin.zeroCells (Value.agg #[.string ⟨#[]⟩, .string ⟨#[]⟩, .string ⟨#[]⟩]).cells 1).toList = [.string ⟨#[]⟩, .string ⟨#[]⟩, .string ⟨#[]⟩] := by kernel_rfl
theorem zero_rows6c : (Builtin.zeroCells (Value.slice none 0 0).cells 1).toList = [.slice none 0 0] := by kernel_rfl
theorem zero_rows6 : ∀ w, (zeroValue 23).run Tryd.prog w = .ok (.slice none 0 0) w := by
  obtain ⟨i0, hi, hzz, _, _⟩ := info_parts info_rwT
  intro w
  simp [zeroValue, typeInfo, hi, hzz]

set_option maxRecDepth 100000 in
set_option maxHeartbeats 8000000 in
theorem delR_cells {w : World} {g cap i n : Nat} {cur : List Value} (hg : w.heap[g]? = some (.cells cur.toArray 32 (0, 0))) (hcl : cur.length = cap * 3) (hnc : n ≤ cap) (hcm : cap ≤ maxLen) (hi : i < n) (hone : ∀ v ∈ (cur.take (n * 3)).drop ((i + 1) * 3), v.oneCell' = true) :
    Calls Tryd.prog 51 #[.slice (some ⟨g, 0, none⟩) n cap, .int .i64 (i : Int), .int .i64 ((i : Int) + 1)] w fun e w' => ∃ cur' : List Value, e = .returned (.slice (some ⟨g, 0, none⟩) (n - 1) cap) ∧ w'.heap[g]? = some (.cells cur'.toArray 32 (0, 0)) ∧ cur'.length = cap * 3 ∧ cur'.take ((n - 1) * 3) = cur.take (i * 3) ++ (cur.take (n * 3)).drop ((i + 1) * 3) ∧ w.grownBy w' (some g) := by
  obtain ⟨i0, hi0, hzz, hz1, hz2⟩ := info_parts info_rwA
  unfold maxLen at hcm
  obtain ⟨news, HNW⟩ : ∃ news, Hid ((cur.take (n * 3)).drop ((i + 1) * 3) = news) := ⟨_, rfl⟩
  rw [HNW.out] at hone ⊢
  have hnl : news.length = (n - (i + 1)) * 3 := by rw [← HNW.out, List.length_drop, List.length_take]; omega
  have HONE : Hid (∀ v ∈ news, v.oneCell' = true) := hone
  obtain ⟨n1, hn1⟩ : ∃ n1, n - 1 = n1 := ⟨_, rfl⟩
  obtain ⟨m, hm⟩ : ∃ m, n - (i + 1) = m := ⟨_, rfl⟩
  rw [hm] at hnl
  have htot : i + m = n1 := by omega
  rw [hn1]
  have HG : Hid (∀ u : World, u.heap = w.heap → u.heap[g]? = some (.cells cur.toArray 32 (0, 0))) := fun u hu => by rw [hu]; exact hg
  have HCUR : Hid (cur.length = cap * 3) := hcl
  have HSRC : Hid (∀ u : World, u.heap = w.heap → ∀ (off : Nat), off = (i + 1) * 3 → ∀ j v, news[j]? = some v → u.cell? ((⟨g, off, none⟩ : Addr).add j) = some v) := fun u hu off ho j v hj => by
    rw [add_cell, cell_list (HG.out u hu), ho]
    rw [← HNW.out, List.getElem?_drop, List.getElem?_take] at hj
    split at hj
    · exact hj
    · cases hj
  have HFIT : Hid (i * 3 + news.length ≤ cur.length) := by show _ ≤ _; rw [hnl, hcl]; omega
  have HEND : Hid (∀ (w1 : World), w1.heap[g]? = some (.cells (splice cur (i * 3) news).toArray 32 (0, 0)) → (∀ ty, (Builtin.clear_ #[23] ty #[.slice (some ⟨g, n1 * 3, none⟩) 1 (cap - n1)]).run Tryd.prog w1 = .ok (.tuple #[]) (w1.setCells g (n1 * 3) [.string ⟨#[]⟩, .string ⟨#[]⟩, .string ⟨#[]⟩])) ∧ ∃ cur' : List Value, (w1.setCells g (n1 * 3) [.string ⟨#[]⟩, .string ⟨#[]⟩, .string ⟨#[]⟩]).heap[g]? = some (.cells cur'.toArray 32 (0, 0)) ∧ cur'.length = cap * 3 ∧ cur'.take (n1 * 3) = cur.take (i * 3) ++ news) := fun w1 h1 => by
    have hl1 : (splice cur (i * 3) news).length = cap * 3 := by rw [length_splice _ _ _ HFIT.out]; exact HCUR.out
    have hfz : n1 * 3 + ([.string ⟨#[]⟩, .string ⟨#[]⟩, .string ⟨#[]⟩] : List Value).length ≤ (splice cur (i * 3) news).length := by rw [hl1]; simp; omega
    refine ⟨fun ty => run_clear1 w1 23 32 ty _ [.string ⟨#[]⟩, .string ⟨#[]⟩, .string ⟨#[]⟩] Tryd.underlying23 zero_row6 zero_row6c (fun v hv => by simp at hv; subst hv; rfl) g (n1 * 3) _ (fun j hj => (cells_there h1 (by omega)).1) (fun j hj => (cells_there h1 (by omega)).2), _, row_sets6 _ _ h1 hfz, by rw [length_splice _ _ _ hfz]; exact hl1, ?_⟩
    rw [splice_take _ _ _ (by rw [hl1]; omega)]
    have e := splice_take2 cur news (i * 3) (by rw [HCUR.out]; omega)
    rw [hnl, show i * 3 + m * 3 = n1 * 3 by omega] at e
    exact e
  have hi9 : ¬ (i : Int) = (i : Int) + 1 := by omega
  have hi7 : (i : Int) + 1 ≤ (n : Int) := by omega
  have hi6 : (i : Int) ≤ (i : Int) + 1 := by omega
  have hi5 : (i : Int) ≤ (cap : Int) := by omega
  have hi4 : (i : Int) + 1 ≤ (cap : Int) := by omega
  have hnc8 : (n : Int) ≤ (cap : Int) := by omega
  have hz8 : (0 : Int) ≤ (i : Int) + 1 := by omega
  have hto : ((i : Int) + 1).toNat = i + 1 := by omega
  have hck : (cap == i) = false := by simp; omega
  have hck1 : (cap == n1) = false := by simp; omega
  have hck0 : ¬ cap = i := by omega
  have hck2 : ¬ cap = n1 := by omega
  have hn18 : (n1 : Int) ≤ (n : Int) := by omega
  have hn17 : (n1 : Int) ≤ (cap : Int) := by omega
  have hnn : n - n1 = 1 := by omega
  have hcn : (n == i) = false := by simp; omega
  clear hg hcl hone
  by_cases hce : cap = i + 1
  · have hm0 : m = 0 := by omega
    have HN0 : Hid (news = []) := List.eq_nil_of_length_eq_zero (by rw [hnl, hm0])
    subst hm0
    subst hce
    have hnn2 : n - (i + 1) = 0 := by omega
    go_enter Tryd.func51, Tryd.ntmps51
    go_wp2_with fail
    go_region_law (refine step_room6 rfl (.tmp 22) (.tmp 25) 23 rfl 32 i0 3 Tryd.underlying23 hi0 hz1 g i (i + 1) (by kernel_rfl) ⟨g, 0, none⟩ 0 0 (by kernel_rfl) cur 32 (HG.out _ rfl) news (by rw [HN0.out]; rfl) (fun j u hj => by rw [HN0.out] at hj; simp at hj) HONE.out (by omega) HFIT.out n1 htot ?_; intro w1 hw1 hg1)
    all_goals
      obtain ⟨hclr, cur', c1, c2, c3⟩ := HEND.out w1 hw1.out
      have HC : Hid _ := And.intro c1 (And.intro c2 c3)
      have HG1 : Hid (w.grownBy w1 (some g)) := ⟨hg1.os, hg1.tape, hg1.output, hg1.size, hg1.block⟩
      clear hw1 hg1 c1 c2 c3 HEND HG
      go_wp2
      go_ret
      exact ⟨_, rfl, HC.out.1, HC.out.2.1, HC.out.2.2, HG1.out.trans (grown_sets6 _ _ _ _)⟩
  · have hce2 : (cap == i + 1) = false := by simpa using hce
    go_enter Tryd.func51, Tryd.ntmps51
    go_wp2_with fail
    go_region_law (refine step_room6 rfl (.tmp 22) (.tmp 25) 23 rfl 32 i0 3 Tryd.underlying23 hi0 hz1 g i cap (by kernel_rfl) ⟨g, (i + 1) * 3, none⟩ m (cap - (i + 1)) (by kernel_rfl) cur 32 (HG.out _ rfl) news hnl (HSRC.out _ rfl _ rfl) HONE.out (by omega) HFIT.out n1 (by omega) ?_; intro w1 hw1 hg1)
    all_goals
      obtain ⟨hclr, cur', c1, c2, c3⟩ := HEND.out w1 hw1.out
      have HC : Hid _ := And.intro c1 (And.intro c2 c3)
      have HG1 : Hid (w.grownBy w1 (some g)) := ⟨hg1.os, hg1.tape, hg1.output, hg1.size, hg1.block⟩
      clear hw1 hg1 c1 c2 c3 HEND HG
      go_wp2
      go_ret
      exact ⟨_, rfl, HC.out.1, HC.out.2.1, HC.out.2.2, HG1.out.trans (grown_sets6 _ _ _ _)⟩

set_option maxRecDepth 100000 in
set_option maxHeartbeats 8000000 in
theorem delB_cells {w : World} {g cap i n : Nat} {cur : List Value} (hg : w.heap[g]? = some (.cells cur.toArray 23 (0, 0))) (hcl : cur.length = cap) (hnc : n ≤ cap) (hcm : cap ≤ maxLen) (hi : i < n) (hone : ∀ v ∈ (cur.take (n)).drop ((i + 1)), v.oneCell' = true) :
    Calls Tryd.prog 78 #[.slice (some ⟨g, 0, none⟩) n cap, .int .i64 (i : Int), .int .i64 ((i : Int) + 1)] w fun e w' => ∃ cur' : List Value, e = .returned (.slice (some ⟨g, 0, none⟩) (n - 1) cap) ∧ w'.heap[g]? = some (.cells cur'.toArray 23 (0, 0)) ∧ cur'.length = cap ∧ cur'.take ((n - 1)) = cur.take (i) ++ (cur.take (n)).drop ((i + 1)) ∧ w.grownBy w' (some g) := by
  obtain ⟨i0, hi0, hzz, hz1, hz2⟩ := info_parts info_rwT
  unfold maxLen at hcm
  obtain ⟨news, HNW⟩ : ∃ news, Hid ((cur.take (n)).drop ((i + 1)) = news) := ⟨_, rfl⟩
  rw [HNW.out] at hone ⊢
  have hnl : news.length = (n - (i + 1)) := by rw [← HNW.out, List.length_drop, List.length_take]; omega
  have HONE : Hid (∀ v ∈ news, v.oneCell' = true) := hone
  obtain ⟨n1, hn1⟩ : ∃ n1, n - 1 = n1 := ⟨_, rfl⟩
  obtain ⟨m, hm⟩ : ∃ m, n - (i + 1) = m := ⟨_, rfl⟩
  rw [hm] at hnl
  have htot : i + m = n1 := by omega
  rw [hn1]
  have HG : Hid (∀ u : World, u.heap = w.heap → u.heap[g]? = some (.cells cur.toArray 23 (0, 0))) := fun u hu => by rw [hu]; exact hg
  have HCUR : Hid (cur.length = cap) := hcl
  have HSRC : Hid (∀ u : World, u.heap = w.heap → ∀ (off : Nat), off = (i + 1) → ∀ j v, news[j]? = some v → u.cell? ((⟨g, off, none⟩ : Addr).add j) = some v) := fun u hu off ho j v hj => by
    rw [add_cell, cell_list (HG.out u hu), ho]
    rw [← HNW.out, List.getElem?_drop, List.getElem?_take] at hj
    split at hj
    · exact hj
    · cases hj
  have HFIT : Hid (i + news.length ≤ cur.length) := by show _ ≤ _; rw [hnl, hcl]; omega
  have HEND : Hid (∀ (w1 : World), w1.heap[g]? = some (.cells (splice cur (i) news).toArray 23 (0, 0)) → (∀ ty, (Builtin.clear_ #[55] ty #[.slice (some ⟨g, n1, none⟩) 1 (cap - n1)]).run Tryd.prog w1 = .ok (.tuple #[]) (w1.setCells g (n1) [.slice none 0 0])) ∧ ∃ cur' : List Value, (w1.setCells g (n1) [.slice none 0 0]).heap[g]? = some (.cells cur'.toArray 23 (0, 0)) ∧ cur'.length = cap ∧ cur'.take (n1) = cur.take (i) ++ news) := fun w1 h1 => by
    have hl1 : (splice cur (i) news).length = cap := by rw [length_splice _ _ _ HFIT.out]; exact HCUR.out
    have hfz : n1 + ([.slice none 0 0] : List Value).length ≤ (splice cur (i) news).length := by rw [hl1]; simp; omega
    refine ⟨fun ty => run_clear1 w1 55 23 ty _ [.slice none 0 0] Tryd.underlying55 zero_rows6 zero_rows6c (fun v hv => by simp at hv; subst hv; rfl) g (n1) _ (fun j hj => (cells_there h1 (by omega)).1) (fun j hj => (cells_there h1 (by omega)).2), _, row_sets6 _ _ h1 hfz, by rw [length_splice _ _ _ hfz]; exact hl1, ?_⟩
    rw [splice_take _ _ _ (by rw [hl1]; omega)]
    have e := splice_take2 cur news (i) (by rw [HCUR.out]; omega)
    rw [hnl, show i + m = n1 by omega] at e
    exact e
  have hi9 : ¬ (i : Int) = (i : Int) + 1 := by omega
  have hi7 : (i : Int) + 1 ≤ (n : Int) := by omega
  have hi6 : (i : Int) ≤ (i : Int) + 1 := by omega
  have hi5 : (i : Int) ≤ (cap : Int) := by omega
  have hi4 : (i : Int) + 1 ≤ (cap : Int) := by omega
  have hnc8 : (n : Int) ≤ (cap : Int) := by omega
  have hz8 : (0 : Int) ≤ (i : Int) + 1 := by omega
  have hto : ((i : Int) + 1).toNat = i + 1 := by omega
  have hck : (cap == i) = false := by simp; omega
  have hck1 : (cap == n1) = false := by simp; omega
  have hck0 : ¬ cap = i := by omega
  have hck2 : ¬ cap = n1 := by omega
  have hn18 : (n1 : Int) ≤ (n : Int) := by omega
  have hn17 : (n1 : Int) ≤ (cap : Int) := by omega
  have hnn : n - n1 = 1 := by omega
  have hcn : (n == i) = false := by simp; omega
  clear hg hcl hone
  by_cases hce : cap = i + 1
  · have hm0 : m = 0 := by omega
    have HN0 : Hid (news = []) := List.eq_nil_of_length_eq_zero (by rw [hnl, hm0])
    subst hm0
    subst hce
    have hnn2 : n - (i + 1) = 0 := by omega
    go_enter Tryd.func78, Tryd.ntmps78
    go_wp2_with fail
    go_region_law (refine step_room6 rfl (.tmp 22) (.tmp 25) 55 rfl 23 i0 1 Tryd.underlying55 hi0 hz1 g i (i + 1) (by kernel_rfl) ⟨g, 0, none⟩ 0 0 (by kernel_rfl) cur 23 (HG.out _ rfl) news (by rw [HN0.out]; rfl) (fun j u hj => by rw [HN0.out] at hj; simp at hj) HONE.out (by omega) (by rw [Nat.mul_one]; exact HFIT.out) n1 htot ?_; intro w1 hw1 hg1)
    all_goals
      obtain ⟨hclr, cur', c1, c2, c3⟩ := HEND.out w1 (by have q := hw1.out; rw [Nat.mul_one] at q; exact q)
      have HC : Hid _ := And.intro c1 (And.intro c2 c3)
      have HG1 : Hid (w.grownBy w1 (some g)) := ⟨hg1.os, hg1.tape, hg1.output, hg1.size, hg1.block⟩
      clear hw1 hg1 c1 c2 c3 HEND HG
      go_wp2
      go_ret
      exact ⟨_, rfl, HC.out.1, HC.out.2.1, HC.out.2.2, HG1.out.trans (grown_sets6 _ _ _ _)⟩
  · have hce2 : (cap == i + 1) = false := by simpa using hce
    go_enter Tryd.func78, Tryd.ntmps78
    go_wp2_with fail
    go_region_law (refine step_room6 rfl (.tmp 22) (.tmp 25) 55 rfl 23 i0 1 Tryd.underlying55 hi0 hz1 g i cap (by kernel_rfl) ⟨g, (i + 1), none⟩ m (cap - (i + 1)) (by kernel_rfl) cur 23 (HG.out _ rfl) news (by rw [Nat.mul_one]; exact hnl) (HSRC.out _ rfl _ rfl) HONE.out (by omega) (by rw [Nat.mul_one]; exact HFIT.out) n1 (by omega) ?_; intro w1 hw1 hg1)
    all_goals
      obtain ⟨hclr, cur', c1, c2, c3⟩ := HEND.out w1 (by have q := hw1.out; rw [Nat.mul_one] at q; exact q)
      have HC : Hid _ := And.intro c1 (And.intro c2 c3)
      have HG1 : Hid (w.grownBy w1 (some g)) := ⟨hg1.os, hg1.tape, hg1.output, hg1.size, hg1.block⟩
      clear hw1 hg1 c1 c2 c3 HEND HG
      go_wp2
      go_ret
      exact ⟨_, rfl, HC.out.1, HC.out.2.1, HC.out.2.2, HG1.out.trans (grown_sets6 _ _ _ _)⟩

theorem rwAll_takeD (l : List Rw) (i : Nat) (h : i ≤ l.length) : (rwAll l).take (i * 3) = rwAll (l.take i) := by
  conv => lhs; rw [← List.take_append_drop i l, rwAll_append]
  exact List.take_left' (by rw [rwAll_len, List.length_take]; omega)
theorem rwAll_dropD (l : List Rw) (i : Nat) (h : i ≤ l.length) : (rwAll l).drop (i * 3) = rwAll (l.drop i) := by
  conv => lhs; rw [← List.take_append_drop i l, rwAll_append]
  exact List.drop_left' (by rw [rwAll_len, List.length_take]; omega)

/-- slices.Delete of one row. -/
theorem delR_any {w : World} {B g cap i : Nat} {l : List Rw} (hI : Rws w B (.slice (some ⟨g, 0, none⟩) l.length cap) l) (hi : i < l.length) :
    Calls Tryd.prog 51 #[.slice (some ⟨g, 0, none⟩) l.length cap, .int .i64 (i : Int), .int .i64 ((i : Int) + 1)] w fun e w' => e = .returned (.slice (some ⟨g, 0, none⟩) (l.length - 1) cap) ∧ Rws w' B (.slice (some ⟨g, 0, none⟩) (l.length - 1) cap) (l.take i ++ l.drop (i + 1)) ∧ w.grownBy w' (some g) := by
  rcases hI.2 with ⟨q, _⟩ | ⟨g', cap', cur, q, h1, h2, h3, h4, h5, h6⟩
  · cases q
  · injection q with q1 _ q3
    injection q1 with q1
    injection q1 with q1
    subst q1
    subst q3
    have hg : w.heap[g]? = some (.cells cur.toList.toArray 32 (0, 0)) := by simpa using h2
    have hn : (cur.toList.take (l.length * 3)).drop ((i + 1) * 3) = rwAll (l.drop (i + 1)) := by rw [h6, rwAll_dropD _ _ (by omega)]
    have hlen : (l.take i ++ l.drop (i + 1)).length = l.length - 1 := by rw [List.length_append, List.length_take, List.length_drop]; omega
    refine (delR_cells hg (by rw [Array.length_toList]; exact h5) h3 h4 hi (by rw [hn]; exact rwAll_one _)).mono ?_
    rintro e w' ⟨cur', rfl, c1, c2, c3, c4⟩
    refine ⟨rfl, ?_, c4⟩
    unfold Rws
    refine ⟨by rw [rwAll_len], .inr ⟨g, cap, cur'.toArray, by rw [hlen], h1, c1, by omega, h4, by simpa using c2, ?_⟩⟩
    rw [hlen]
    rw [hn] at c3
    have h7 : cur.toList.take (i * 3) = rwAll (l.take i) := by
      rw [← rwAll_takeD _ _ (by omega), ← h6, List.take_take]
      congr 1
      omega
    rw [h7] at c3
    rw [rwAll_append]
    exact c3

/-- slices.Delete of one page. -/
theorem delB_any {w : World} {B g cap i : Nat} {gs : List (List Rw)} {vs : List Value} (hO : OwnT w B (.slice (some ⟨g, 0, none⟩) gs.length cap) gs vs) (hi : i < gs.length) :
    Calls Tryd.prog 78 #[.slice (some ⟨g, 0, none⟩) gs.length cap, .int .i64 (i : Int), .int .i64 ((i : Int) + 1)] w fun e w' => ∃ v, e = .returned v ∧ OwnT w' B v (gs.take i ++ gs.drop (i + 1)) (vs.take i ++ vs.drop (i + 1)) ∧ w.grownBy w' (some g) := by
  obtain ⟨g', cap', cur, hv, hBg, hg, hnc, hcm, hcl, htk⟩ := hO.block (by omega)
  obtain ⟨rfl, rfl⟩ : g' = g ∧ cap' = cap := by
    injection hv with q1 _ q3
    injection q1 with q1
    injection q1 with q1
    exact ⟨q1.symm, q3.symm⟩
  have hn : (cur.take gs.length).drop (i + 1) = vs.drop (i + 1) := by rw [htk]
  have hlen : (gs.take i ++ gs.drop (i + 1)).length = gs.length - 1 := by rw [List.length_append, List.length_take, List.length_drop]; omega
  refine (delB_cells hg hcl hnc hcm hi (by rw [hn]; exact fun v hv => hO.2.one' v (List.mem_of_mem_drop hv))).mono ?_
  rintro e w' ⟨cur', rfl, c1, c2, c3, c4⟩
  rw [hn] at c3
  have h7 : cur.take i = vs.take i := by
    rw [← htk, List.take_take]
    congr 1
    omega
  rw [h7] at c3
  have hv2 : ValsT w' (vs.take i ++ vs.drop (i + 1)) (gs.take i ++ gs.drop (i + 1)) := ((hO.2.take i).app (hO.2.drop (i + 1))).kept c4 hg
  have := ownT_of (w := w') (B := B) (g := g') (cap := cap') hBg c1 (by rw [hlen]; omega) hcm c2 (by rw [hlen]; exact c3) hv2
  rw [hlen] at this
  exact ⟨_, rfl, this, c4⟩
end Go.Proofs.YticogafoopkflaaDoor
