/- What DropFromPages answers, without memory. -/
import Derived.Test.YticogafoopkflaaDoorPPutA
namespace Go.Proofs.YticogafoopkflaaDoor

/-- Rows without the one with the key. -/
def dropR (l : List Rw) (key : ByteArray) : List Rw := l.take (placeF l key) ++ l.drop (placeF l key + 1)

theorem ltK_ne {a b : ByteArray} (h : ltK a b = true) : a ≠ b := fun e => by
  rw [e, ltK_irr] at h
  cases h

theorem there_at {l : List Rw} {key : ByteArray} (ht : thereF l key = true) : (rwAt l (placeF l key)).key = key := by
  unfold thereF at ht
  rw [Bool.and_eq_true, decide_eq_true_eq, decide_eq_true_eq, cmpK_zero] at ht
  exact ht.2

theorem filter_there {l : List Rw} {key : ByteArray} (hr : Rise l) (ht : thereF l key = true) : l.filter (fun y => decide (y.key ≠ key)) = dropR l key := by
  have hp := (rowIn_there hr ht).2
  have h1 := take_low (key := key) hr
  have h2 := drop_high (key := key) hr
  rw [ht] at h2
  simp only [if_true] at h2
  have h3 := there_at ht
  have hsplit : l = l.take (placeF l key) ++ (rwAt l (placeF l key) :: l.drop (placeF l key + 1)) := by
    conv => lhs; rw [← List.take_append_drop (placeF l key) l]
    congr 1
    rw [List.drop_eq_getElem_cons hp]
    congr 1
    unfold rwAt
    rw [List.getElem?_eq_getElem hp]
    rfl
  unfold dropR
  generalize placeF l key = p at *
  rw [hsplit] 
  rw [List.filter_append, List.filter_cons]
  rw [if_neg (by simp only [h3]; simp)]
  have e1 : (l.take p).filter (fun y => decide (y.key ≠ key)) = l.take p := List.filter_eq_self.2 fun y hy => decide_eq_true (ltK_ne (h1 y hy))
  have e2 : (l.drop (p + 1)).filter (fun y => decide (y.key ≠ key)) = l.drop (p + 1) := List.filter_eq_self.2 fun y hy => decide_eq_true (ltK_ne (h2 y hy)).symm
  have e3 : (l.take p ++ rwAt l p :: l.drop (p + 1)).take p = l.take p := by rw [← hsplit]
  have e4 : (l.take p ++ rwAt l p :: l.drop (p + 1)).drop (p + 1) = l.drop (p + 1) := by rw [← hsplit]
  rw [e1, e2, e3, e4]

theorem filter_not {l : List Rw} {key : ByteArray} (hr : Rise l) (ht : thereF l key = false) : l.filter (fun y => decide (y.key ≠ key)) = l :=
  List.filter_eq_self.2 fun y hy => decide_eq_true (rowIn_not hr ht y hy)

theorem dropR_len {l : List Rw} {key : ByteArray} (hr : Rise l) (ht : thereF l key = true) : (dropR l key).length = l.length - 1 := by
  have hp := (rowIn_there hr ht).2
  unfold dropR
  rw [List.length_append, List.length_take, List.length_drop]
  omega

theorem dropR_sub (l : List Rw) (key : ByteArray) : (dropR l key).Sublist l := by
  unfold dropR
  conv => rhs; rw [← List.take_append_drop (placeF l key) l]
  refine List.Sublist.append (List.Sublist.refl _) ?_
  rw [show l.drop (placeF l key + 1) = (l.drop (placeF l key)).drop 1 by rw [List.drop_drop]]
  exact List.drop_sublist _ _

def gAt (gs : List (List Rw)) (i : Nat) : List Rw := (gs[i]?).getD []

/-- The pages behind it: k is the page, l its rows by now. -/
def dropG (gs : List (List Rw)) (k : Nat) (l : List Rw) : List (List Rw) :=
  if l.length = 0 then gs.take k ++ gs.drop (k + 1)
  else if 0 < k ∧ lnP (gAt gs (k - 1) ++ l) ≤ 300 then gs.take (k - 1) ++ ([gAt gs (k - 1) ++ l] ++ gs.drop (k + 1))
  else if k + 1 < gs.length ∧ lnP (l ++ gAt gs (k + 1)) ≤ 300 then gs.take k ++ ([l ++ gAt gs (k + 1)] ++ gs.drop (k + 2))
  else gs.take k ++ ([l] ++ gs.drop (k + 1))

theorem dropG_none {gs : List (List Rw)} {k : Nat} {l : List Rw} (h : l.length = 0) : dropG gs k l = gs.take k ++ gs.drop (k + 1) := by unfold dropG; rw [if_pos h]
theorem dropG_ahead {gs : List (List Rw)} {k : Nat} {l a : List Rw} (h : l.length ≠ 0) (hk : 0 < k) (ha : gs[k - 1]? = some a) (hf : lnP (a ++ l) ≤ 300) : dropG gs k l = gs.take (k - 1) ++ ([a ++ l] ++ gs.drop (k + 1)) := by
  have e : gAt gs (k - 1) = a := by unfold gAt; rw [ha]; rfl
  unfold dropG
  rw [if_neg h, e, if_pos ⟨hk, hf⟩]
theorem dropG_next {gs : List (List Rw)} {k : Nat} {l b : List Rw} (h : l.length ≠ 0) (hn : ∀ a, 0 < k → gs[k - 1]? = some a → ¬ lnP (a ++ l) ≤ 300) (hb : gs[k + 1]? = some b) (hf : lnP (l ++ b) ≤ 300) : dropG gs k l = gs.take k ++ ([l ++ b] ++ gs.drop (k + 2)) := by
  have e : gAt gs (k + 1) = b := by unfold gAt; rw [hb]; rfl
  have hkk := (List.getElem?_eq_some_iff.1 hb).1
  unfold dropG
  rw [if_neg h, if_neg, e, if_pos ⟨hkk, hf⟩]
  rintro ⟨h1, h2⟩
  have : gs[k - 1]? = some (gAt gs (k - 1)) := by unfold gAt; rw [List.getElem?_eq_getElem (by omega)]; rfl
  exact hn _ h1 this h2
theorem dropG_same {gs : List (List Rw)} {k : Nat} {l : List Rw} (h : l.length ≠ 0) (hn : ∀ a, 0 < k → gs[k - 1]? = some a → ¬ lnP (a ++ l) ≤ 300) (hkl : k < gs.length) (hm : ∀ b, gs[k + 1]? = some b → ¬ lnP (l ++ b) ≤ 300) : dropG gs k l = gs.take k ++ ([l] ++ gs.drop (k + 1)) := by
  unfold dropG
  rw [if_neg h, if_neg, if_neg]
  · rintro ⟨h1, h2⟩
    have : gs[k + 1]? = some (gAt gs (k + 1)) := by unfold gAt; rw [List.getElem?_eq_getElem h1]; rfl
    exact hm _ this h2
  · rintro ⟨h1, h2⟩
    have : gs[k - 1]? = some (gAt gs (k - 1)) := by unfold gAt; rw [List.getElem?_eq_getElem (by omega)]; rfl
    exact hn _ h1 this h2

theorem take_pred {gs : List (List Rw)} {k : Nat} {a : List Rw} (hk : 0 < k) (ha : gs[k - 1]? = some a) : gs.take k = gs.take (k - 1) ++ [a] := by
  obtain ⟨j, rfl⟩ : ∃ j, k = j + 1 := ⟨k - 1, by omega⟩
  simp only [Nat.add_sub_cancel] at ha ⊢
  rw [List.take_add_one, ha]
  rfl

theorem drop_succ {gs : List (List Rw)} {k : Nat} {a : List Rw} (ha : gs[k]? = some a) : gs.drop k = a :: gs.drop (k + 1) := by
  obtain ⟨h1, rfl⟩ := List.getElem?_eq_some_iff.1 ha
  exact List.drop_eq_getElem_cons h1

/-- How the pages may have been put together. -/
theorem dropG_cases (gs : List (List Rw)) (k : Nat) (l : List Rw) (hk : k < gs.length) :
    (dropG gs k l).flatten = (gs.take k).flatten ++ (l ++ (gs.drop (k + 1)).flatten) ∧ (∀ g ∈ dropG gs k l, g ∈ gs ∨ (g = l ∧ 0 < l.length) ∨ (lnP g ≤ 300 ∧ 0 < g.length ∧ ∀ x ∈ g, x ∈ l ∨ ∃ q ∈ gs, x ∈ q)) ∧ (dropG gs k l).length ≤ gs.length := by
  by_cases h : l.length = 0
  · rw [dropG_none h]
    obtain rfl : l = [] := List.eq_nil_of_length_eq_zero h
    refine ⟨by simp, fun g hg => ?_, by simp; omega⟩
    rcases List.mem_append.1 hg with hg | hg
    · exact .inl (List.mem_of_mem_take hg)
    · exact .inl (List.mem_of_mem_drop hg)
  · by_cases hA : ∃ a, 0 < k ∧ gs[k - 1]? = some a ∧ lnP (a ++ l) ≤ 300
    · obtain ⟨a, h0, ha, hf⟩ := hA
      rw [dropG_ahead h h0 ha hf]
      refine ⟨by rw [take_pred h0 ha]; simp, fun g hg => ?_, by simp; omega⟩
      rcases List.mem_append.1 hg with hg | hg
      · exact .inl (List.mem_of_mem_take hg)
      · rcases List.mem_append.1 hg with hg | hg
        · simp at hg
          subst hg
          refine .inr (.inr ⟨hf, by simp; omega, fun x hx => ?_⟩)
          rcases List.mem_append.1 hx with hx | hx
          · exact .inr ⟨a, List.mem_of_getElem? ha, hx⟩
          · exact .inl hx
        · exact .inl (List.mem_of_mem_drop hg)
    · have hn : ∀ a, 0 < k → gs[k - 1]? = some a → ¬ lnP (a ++ l) ≤ 300 := fun a h1 h2 h3 => hA ⟨a, h1, h2, h3⟩
      by_cases hB : ∃ b, gs[k + 1]? = some b ∧ lnP (l ++ b) ≤ 300
      · obtain ⟨b, hb, hf⟩ := hB
        rw [dropG_next h hn hb hf]
        have hkk := (List.getElem?_eq_some_iff.1 hb).1
        refine ⟨by rw [drop_succ hb]; simp, fun g hg => ?_, by simp; omega⟩
        rcases List.mem_append.1 hg with hg | hg
        · exact .inl (List.mem_of_mem_take hg)
        · rcases List.mem_append.1 hg with hg | hg
          · simp at hg
            subst hg
            refine .inr (.inr ⟨hf, by simp; omega, fun x hx => ?_⟩)
            rcases List.mem_append.1 hx with hx | hx
            · exact .inl hx
            · exact .inr ⟨b, List.mem_of_getElem? hb, hx⟩
          · exact .inl (List.mem_of_mem_drop hg)
      · rw [dropG_same h hn hk (fun b h1 h2 => hB ⟨b, h1, h2⟩)]
        refine ⟨by simp, fun g hg => ?_, by simp; omega⟩
        rcases List.mem_append.1 hg with hg | hg
        · exact .inl (List.mem_of_mem_take hg)
        · rcases List.mem_append.1 hg with hg | hg
          · simp at hg
            subst hg
            exact .inr (.inl ⟨rfl, by omega⟩)
          · exact .inl (List.mem_of_mem_drop hg)

theorem dropG_book {gs : List (List Rw)} {k : Nat} {l l' : List Rw} (hb : Book gs) (hl : gs[k]? = some l) (hs : l'.Sublist l) : Book (dropG gs k l') := by
  have hk := (List.getElem?_eq_some_iff.1 hl).1
  obtain ⟨c1, c2, _⟩ := dropG_cases gs k l' hk
  have lm := List.mem_of_getElem? hl
  have hpw : PW (dropG gs k l').flatten := by
    rw [c1]
    have h2 : gs.flatten = (gs.take k).flatten ++ (l ++ (gs.drop (k + 1)).flatten) := by
      conv => lhs; rw [← List.take_append_drop k gs, drop_succ hl]
      simp
    have h3 := hb.pw
    rw [h2] at h3
    exact List.Pairwise.sublist (List.Sublist.append (List.Sublist.refl _) (List.Sublist.append hs (List.Sublist.refl _))) h3
  have hg := (List.pairwise_flatten.1 hpw).1
  refine book_of (fun g hgm => ?_) hpw
  rcases c2 g hgm with h | ⟨rfl, h0⟩ | ⟨h1, h0, h2⟩
  · obtain ⟨b1, b2⟩ := hb.good g h
    exact ⟨(goodR_iff.1 b1).1, b2, (goodR_iff.1 b1).2.1⟩
  · obtain ⟨b1, b2⟩ := hb.good l lm
    have := hs.length_le
    exact ⟨by have := (goodR_iff.1 b1).1; omega, h0, fun x hx => (goodR_iff.1 b1).2.1 x (hs.subset hx)⟩
  · have h59 := fit59 (pw_rise (hg g hgm)) h1
    refine ⟨by omega, h0, fun x hx => ?_⟩
    rcases h2 x hx with hx | ⟨q, hq, hx⟩
    · exact (goodR_iff.1 (hb.good l lm).1).2.1 x (hs.subset hx)
    · exact (goodR_iff.1 (hb.good q hq).1).2.1 x hx

/-- What DropFromPages answers. -/
def dropA (ss : List ByteArray) (key : ByteArray) : Option (List ByteArray) :=
  match bookF ss with
  | none => none
  | some gs => if thereF (gAt gs (plF gs key)) key = true ∧ plF gs key < gs.length then ansG (dropG gs (plF gs key) (dropR (gAt gs (plF gs key)) key)) else none

theorem dropA_bad {ss : List ByteArray} {key : ByteArray} (h : bookF ss = none) : dropA ss key = none := by unfold dropA; rw [h]
theorem dropA_end {ss : List ByteArray} {key : ByteArray} {gs : List (List Rw)} (h : bookF ss = some gs) (hk : plF gs key = gs.length) : dropA ss key = none := by
  unfold dropA
  rw [h]
  simp only []
  rw [if_neg]
  rintro ⟨_, h2⟩
  omega
theorem dropA_no {ss : List ByteArray} {key : ByteArray} {gs : List (List Rw)} {l : List Rw} (h : bookF ss = some gs) (hl : gs[plF gs key]? = some l) (ht : thereF l key = false) : dropA ss key = none := by
  unfold dropA
  rw [h]
  simp only []
  rw [if_neg]
  rintro ⟨h2, _⟩
  unfold gAt at h2
  rw [hl] at h2
  simp [ht] at h2
theorem dropA_yes {ss : List ByteArray} {key : ByteArray} {gs : List (List Rw)} {l : List Rw} (h : bookF ss = some gs) (hl : gs[plF gs key]? = some l) (ht : thereF l key = true) : dropA ss key = ansG (dropG gs (plF gs key) (dropR l key)) := by
  have e : gAt gs (plF gs key) = l := by unfold gAt; rw [hl]; rfl
  unfold dropA
  rw [h]
  simp only []
  rw [e, if_pos ⟨ht, (List.getElem?_eq_some_iff.1 hl).1⟩]

theorem dropA_len (ss : List ByteArray) (key : ByteArray) : ((dropA ss key).getD []).length ≤ 40 := by
  unfold dropA
  split
  · simp
  · split
    · exact ansG_len _
    · simp
end Go.Proofs.YticogafoopkflaaDoor
