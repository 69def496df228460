/- What is found in a book, without memory: each row of it, by few looks; and a page that has lost a row is no longer than it was. -/
import Derived.Test.YticogafoopkflaaDoorPDropA
namespace Go.Proofs.YticogafoopkflaaDoor

/-- The search by halves looks at few pages. -/
theorem pfF_looks (gs : List (List Rw)) (key : ByteArray) : ∀ (n lo hi k : Nat), hi - lo < 2 ^ n → (pfF gs key lo hi k).2 ≤ k + n
  | 0, lo, hi, k, h => by
    rw [pfF_end (by simp at h; omega)]
    exact Nat.le_refl _
  | n + 1, lo, hi, k, h => by
    by_cases hlt : lo < hi
    · have h2 : hi - lo < 2 * 2 ^ n := by rw [Nat.pow_succ] at h; omega
      rw [pfF, if_pos hlt]
      split
      · have := pfF_looks gs key n ((lo + hi) / 2 + 1) hi (k + 1) (by omega)
        omega
      · have := pfF_looks gs key n lo ((lo + hi) / 2) (k + 1) (by omega)
        omega
    · rw [pfF_end hlt]
      show k ≤ _
      omega

theorem pageF_looks {gs : List (List Rw)} (key : ByteArray) (h : gs.length ≤ 40) : (pageF gs key).2 ≤ 6 := by
  have := pfF_looks gs key 6 0 gs.length 0 (by have : (2 : Nat) ^ 6 = 64 := by decide
                                               omega)
  unfold pageF
  omega

/-- The page of a row that is in a book. -/
theorem plF_row {gs : List (List Rw)} (hb : Book gs) {i : Nat} {g : List Rw} {x : Rw} (hg : gs[i]? = some g) (hx : x ∈ g) : plF gs x.key = i := by
  have hpw := hb.pw
  unfold PW at hpw
  rw [List.pairwise_flatten] at hpw
  have hil := (List.getElem?_eq_some_iff.1 hg).1
  unfold plF
  refine takeWhile_at _ gs i (fun j a hj ha => ?_) (fun a ha => ?_) (by omega)
  · have hjl := (List.getElem?_eq_some_iff.1 ha).1
    have h2 := List.pairwise_iff_getElem.1 hpw.2 j i hjl hil hj
    have ea : gs[j] = a := (List.getElem?_eq_some_iff.1 ha).2
    have eg : gs[i] = g := (List.getElem?_eq_some_iff.1 hg).2
    rw [ea, eg] at h2
    have h0 := (hb.good a (List.mem_of_getElem? ha)).2
    exact h2 (rwAt a (a.length - 1)) (List.mem_of_getElem? (rwAt_lt (by omega))) x hx
  · rw [hg] at ha
    obtain rfl := Option.some.inj ha
    rcases mem_end (goodR_rise (hb.good g (List.mem_of_getElem? hg)).1) hx with e | e
    · rw [← e]; exact ltK_irr _
    · cases hlt : ltK (endK g) x.key with
      | false => rfl
      | true =>
        have := ltK_trans e hlt
        rw [ltK_irr] at this
        cases this

/-- A row of rising rows is the one with its key. -/
theorem rowIn_row {g : List Rw} (hr : Rise g) {x : Rw} (hx : x ∈ g) : rowIn g x.key = x := by
  obtain ⟨i, hi⟩ := List.getElem?_of_mem hx
  have hil := (List.getElem?_eq_some_iff.1 hi).1
  refine rowIn_first hi rfl fun y hy => ?_
  obtain ⟨j, hj⟩ := List.getElem?_of_mem hy
  have hjl := (List.getElem?_eq_some_iff.1 hj).1
  rw [List.length_take] at hjl
  rw [List.getElem?_take_of_lt (by omega)] at hj
  have := hr j i (by omega) hil
  rw [rwAt_of hj, rwAt_of hi] at this
  exact ltK_ne this

/-- A row of a book is found, by at most seven looks. -/
theorem findA_row {ss : List ByteArray} {gs : List (List Rw)} (h : bookF ss = some gs) {x : Rw} (hx : x ∈ gs.flatten) : (findA ss x.key).1 = x ∧ (findA ss x.key).2 ≤ 7 := by
  obtain ⟨hb, _, h40⟩ := bookF_book h
  obtain ⟨g, hg, hxg⟩ := List.mem_flatten.1 hx
  obtain ⟨i, hi⟩ := List.getElem?_of_mem hg
  have hp : (pageF gs x.key).1 = i := by rw [pageF_pl hb]; exact plF_row hb hi hxg
  rw [findA_page h (by rw [hp]; exact hi)]
  have := pageF_looks (gs := gs) x.key h40
  exact ⟨rowIn_row (goodR_rise (hb.good g hg).1) hxg, by show _ + 1 ≤ _; omega⟩

/-- Pages of good rows are a book of them. -/
theorem cut_book {l : List Rw} {gs : List (List Rw)} (hg : goodR l = true) (hf : gs.flatten = l) (ho : ∀ p ∈ gs, okPB p = true) : Book gs := by
  refine book_of (fun g hgm => ?_) (by rw [hf]; exact rise_pw (goodR_rise hg))
  have := ho g hgm
  unfold okPB at this
  simp only [Bool.and_eq_true, decide_eq_true_eq] at this
  obtain ⟨⟨h1, h2⟩, _⟩ := this
  refine ⟨(goodR_iff.1 h2).1, ?_, (goodR_iff.1 h2).2.1⟩
  cases g with
  | nil => simp at h1
  | cons x g => simp

theorem okPB_fit {g : List Rw} (h : okPB g = true) : lnP g ≤ 300 ∧ 0 < g.length ∧ goodR g = true := by
  unfold okPB at h
  simp only [Bool.and_eq_true, decide_eq_true_eq] at h
  refine ⟨h.2, ?_, h.1.2⟩
  cases g with
  | nil => simp at h
  | cons x g => simp

/-- How many bytes two keys share, in three that rise. -/
theorem shL_three : ∀ (a b c : List UInt8), shL a b ≤ a.length ∧ shL a b ≤ b.length ∧ min (shL a b) (shL b c) ≤ shL a c
  | [], b, c => by simp [shL]
  | x :: a, [], c => by simp [shL]
  | x :: a, y :: b, [] => by
    refine ⟨?_, ?_, by simp [shL]⟩
    · have := shL_three a b []
      unfold shL
      split
      · simp; omega
      · simp
    · have := shL_three a b []
      unfold shL
      split
      · simp; omega
      · simp
  | x :: a, y :: b, z :: c => by
    have ih := shL_three a b c
    refine ⟨?_, ?_, ?_⟩
    · unfold shL
      split
      · simp; omega
      · simp
    · unfold shL
      split
      · simp; omega
      · simp
    · by_cases h1 : x = y
      · by_cases h2 : y = z
        · subst h1; subst h2
          simp only [shL, if_true]
          omega
        · simp only [shL, h2, if_false]
          omega
      · simp only [shL, h1, if_false]
        omega

theorem shB_three (a b c : ByteArray) : shB a b ≤ b.size ∧ shB b c ≤ b.size ∧ min (shB a b) (shB b c) ≤ shB a c := by
  have h1 := shL_three a.data.toList b.data.toList c.data.toList
  have h2 := shL_three b.data.toList c.data.toList c.data.toList
  have e : b.data.toList.length = b.size := by rw [Array.length_toList]; rfl
  unfold shB
  omega

theorem rowI_size (p : ByteArray) (x : Rw) : (rowI p x).length = 4 + (x.key.size - shB p x.key) + x.text.size + x.val.size := by
  unfold rowI
  simp [bI]
  omega

/-- Rows without one of them are no longer. -/
theorem rowsI_drop (p : ByteArray) (x : Rw) (t : List Rw) : (rowsI p t).length ≤ (rowsI p (x :: t)).length := by
  cases t with
  | nil => simp [rowsI]
  | cons y t =>
    simp only [rowsI, List.length_append]
    rw [rowI_size, rowI_size, rowI_size]
    have h1 := shB_three p x.key y.key
    have h2 := (shB_three x.key y.key y.key).1
    have h3 := (shB_three p y.key y.key).1
    omega

theorem rowsI_less : ∀ (s t : List Rw) (p : ByteArray) (x : Rw), (rowsI p (s ++ t)).length ≤ (rowsI p (s ++ x :: t)).length
  | [], t, p, x => rowsI_drop p x t
  | y :: s, t, p, x => by
    have := rowsI_less s t y.key x
    simp only [List.cons_append, rowsI, List.length_append]
    omega

theorem lnP_less (s t : List Rw) (x : Rw) : lnP (s ++ t) ≤ lnP (s ++ x :: t) := by
  rw [lnP_is, lnP_is]
  have := rowsI_less s t ⟨#[]⟩ x
  omega

/-- A page that has lost a row fits where it did. -/
theorem dropR_fit {l : List Rw} {key : ByteArray} (hr : Rise l) (ht : thereF l key = true) : lnP (dropR l key) ≤ lnP l := by
  have hp := (rowIn_there hr ht).2
  unfold dropR
  generalize placeF l key = i at *
  have e : l = l.take i ++ l[i] :: l.drop (i + 1) := by
    conv => lhs; rw [← List.take_append_drop i l, List.drop_eq_getElem_cons hp]
  conv => rhs; rw [e]
  exact lnP_less _ _ _
end Go.Proofs.YticogafoopkflaaDoor
