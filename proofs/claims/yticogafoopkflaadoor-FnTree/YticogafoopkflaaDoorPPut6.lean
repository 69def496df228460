/- Rows put into pages and dropped from them, without memory. -/
import Derived.Test.YticogafoopkflaaDoorPBk6
namespace Go.Proofs.YticogafoopkflaaDoor

/-- The keys rise, pair by pair. -/
def PW (l : List Rw) : Prop := l.Pairwise fun a b => ltK a.key b.key = true

theorem rise_pw {l : List Rw} (h : Rise l) : PW l := by
  unfold PW
  rw [List.pairwise_iff_getElem]
  intro i j hi hj hij
  have := h i j hij hj
  unfold rwAt at this
  rw [List.getElem?_eq_getElem hi, List.getElem?_eq_getElem hj] at this
  exact this

theorem pw_rise {l : List Rw} (h : PW l) : Rise l := by
  intro i j hij hj
  unfold PW at h
  rw [List.pairwise_iff_getElem] at h
  have := h i j (by omega) hj hij
  unfold rwAt
  rw [List.getElem?_eq_getElem (show i < l.length by omega), List.getElem?_eq_getElem hj]
  exact this

theorem goodR_iff {l : List Rw} : goodR l = true ↔ l.length ≤ 60 ∧ (∀ x ∈ l, sz1 x = true) ∧ PW l := by
  constructor
  · intro h
    refine ⟨goodR_len h, fun x hx => ?_, rise_pw (goodR_rise h)⟩
    obtain ⟨h0, h1, h2⟩ := goodR_sz h x hx
    exact sz1_true h0 h1 h2
  · rintro ⟨h1, h2, h3⟩
    refine goodR_all h1 fun i hi => ?_
    unfold okAt
    have hm : rwAt l i ∈ l := List.mem_of_getElem? (rwAt_lt hi)
    rw [h2 _ hm, Bool.true_and]
    by_cases e : i = 0
    · simp [e]
    · rw [pw_rise h3 (i - 1) i (by omega) hi]
      simp

theorem mem_end {g : List Rw} (hg : Rise g) {x : Rw} (hx : x ∈ g) : x.key = endK g ∨ ltK x.key (endK g) = true := by
  obtain ⟨i, hi⟩ := List.getElem?_of_mem hx
  have hl := (List.getElem?_eq_some_iff.1 hi).1
  by_cases e : i = g.length - 1
  · left
    unfold endK
    rw [← e, rwAt_of hi]
  · right
    have := hg i (g.length - 1) (by omega) (by omega)
    rw [rwAt_of hi] at this
    exact this

theorem mem_beg {g : List Rw} (hg : Rise g) {x : Rw} (hx : x ∈ g) : begK g = x.key ∨ ltK (begK g) x.key = true := by
  obtain ⟨i, hi⟩ := List.getElem?_of_mem hx
  have hl := (List.getElem?_eq_some_iff.1 hi).1
  by_cases e : i = 0
  · left
    unfold begK
    rw [← e, rwAt_of hi]
  · right
    have := hg 0 i (by omega) hl
    rw [rwAt_of hi] at this
    exact this

theorem lt_mix {a b c d : ByteArray} (h1 : a = b ∨ ltK a b = true) (h2 : ltK b c = true) (h3 : c = d ∨ ltK c d = true) : ltK a d = true := by
  have h4 : ltK a c = true := by
    rcases h1 with rfl | h1
    · exact h2
    · exact ltK_trans h1 h2
  rcases h3 with rfl | h3
  · exact h4
  · exact ltK_trans h4 h3

theorem Book.pw {gs : List (List Rw)} (hb : Book gs) : PW gs.flatten := by
  unfold PW
  rw [List.pairwise_flatten]
  refine ⟨fun g hg => rise_pw (goodR_rise (hb.good g hg).1), ?_⟩
  rw [List.pairwise_iff_getElem]
  intro i j hi hj hij x hx y hy
  have ha : gs[i]? = some gs[i] := List.getElem?_eq_getElem hi
  have hc : gs[j]? = some gs[j] := List.getElem?_eq_getElem hj
  obtain ⟨a1, a2⟩ := hb.good gs[i] (List.getElem_mem hi)
  obtain ⟨c1, c2⟩ := hb.good gs[j] (List.getElem_mem hj)
  have hlt : ltK (endK gs[i]) (begK gs[j]) = true := by
    by_cases e : j = i + 1
    · exact hb.rise i _ _ ha (by rw [← e]; exact hc)
    · obtain ⟨m, hm⟩ : ∃ m, gs[j - 1]? = some m := ⟨_, List.getElem?_eq_getElem (by omega)⟩
      have h1 := hb.ends (j - 1 - i - 1) i _ m ha (by rw [show i + 1 + (j - 1 - i - 1) = j - 1 by omega]; exact hm)
      have h2 := hb.rise (j - 1) m _ hm (by rw [show j - 1 + 1 = j by omega]; exact hc)
      exact ltK_trans h1 h2
  exact lt_mix (mem_end (goodR_rise a1) hx) hlt (mem_beg (goodR_rise c1) hy)

theorem book_of {gs : List (List Rw)} (h1 : ∀ g ∈ gs, g.length ≤ 60 ∧ 0 < g.length ∧ ∀ x ∈ g, sz1 x = true) (h2 : PW gs.flatten) : Book gs := by
  unfold PW at h2
  rw [List.pairwise_flatten] at h2
  refine ⟨fun g hg => ⟨goodR_iff.2 ⟨(h1 g hg).1, (h1 g hg).2.2, h2.1 g hg⟩, (h1 g hg).2.1⟩, fun i a b ha hb => ?_⟩
  have hi := (List.getElem?_eq_some_iff.1 ha)
  have hj := (List.getElem?_eq_some_iff.1 hb)
  have := List.pairwise_iff_getElem.1 h2.2 i (i + 1) hi.1 hj.1 (by omega)
  rw [hi.2, hj.2] at this
  have la := (h1 a (List.mem_of_getElem? ha)).2.1
  have lb := (h1 b (List.mem_of_getElem? hb)).2.1
  exact this (rwAt a (a.length - 1)) (List.mem_of_getElem? (rwAt_lt (by omega))) (rwAt b 0) (List.mem_of_getElem? (rwAt_lt lb))

/-- Rows with x in its place. -/
def insR (l : List Rw) (x : Rw) : List Rw := l.take (placeF l x.key) ++ ([x] ++ l.drop (if thereF l x.key then placeF l x.key + 1 else placeF l x.key))

theorem take_low {l : List Rw} {key : ByteArray} (hr : Rise l) : ∀ y ∈ l.take (placeF l key), ltK y.key key = true := by
  intro y hy
  obtain ⟨i, hi⟩ := List.getElem?_of_mem hy
  obtain ⟨h1, h2, h3⟩ := placeF_is key hr
  have hil := (List.getElem?_eq_some_iff.1 hi).1
  rw [List.length_take] at hil
  rw [List.getElem?_take_of_lt (by omega)] at hi
  have := h2 i (by omega)
  rw [rwAt_of hi] at this
  exact this

theorem drop_high {l : List Rw} {key : ByteArray} (hr : Rise l) : ∀ y ∈ l.drop (if thereF l key then placeF l key + 1 else placeF l key), ltK key y.key = true := by
  intro y hy
  obtain ⟨i, hi⟩ := List.getElem?_of_mem hy
  obtain ⟨h1, h2, h3⟩ := placeF_is key hr
  rw [List.getElem?_drop] at hi
  have hil := (List.getElem?_eq_some_iff.1 hi).1
  cases ht : thereF l key
  · rw [ht] at hi hil
    simp only [Bool.false_eq_true, if_false] at hi hil
    have h4 := h3 (placeF l key + i) (by omega) hil
    rw [rwAt_of hi] at h4
    exact ltK_tot h4 (rowIn_not hr ht y (List.mem_of_getElem? hi))
  · rw [ht] at hi hil
    simp only [if_true] at hi hil
    unfold thereF at ht
    rw [Bool.and_eq_true, decide_eq_true_eq, decide_eq_true_eq, cmpK_zero] at ht
    have h4 := hr (placeF l key) (placeF l key + 1 + i) (by omega) hil
    rw [ht.2, rwAt_of hi] at h4
    exact h4

theorem insR_pw {l : List Rw} {x : Rw} (hr : PW l) : PW (insR l x) := by
  have h := pw_rise hr
  have h1 := take_low (key := x.key) h
  have h2 := drop_high (key := x.key) h
  unfold insR PW
  rw [List.pairwise_append, List.pairwise_append]
  refine ⟨List.Pairwise.sublist (List.take_sublist _ _) hr, ⟨List.pairwise_singleton _ _, List.Pairwise.sublist (List.drop_sublist _ _) hr, fun a ha b hb => ?_⟩, fun a ha b hb => ?_⟩
  · simp at ha
    subst ha
    exact h2 b hb
  · rcases List.mem_append.1 hb with hb | hb
    · simp at hb
      subst hb
      exact h1 a ha
    · exact ltK_trans (h1 a ha) (h2 b hb)

theorem insR_mem {l : List Rw} {x y : Rw} (h : y ∈ insR l x) : y = x ∨ y ∈ l := by
  unfold insR at h
  rcases List.mem_append.1 h with h | h
  · exact .inr (List.mem_of_mem_take h)
  · rcases List.mem_append.1 h with h | h
    · simp at h; exact .inl h
    · exact .inr (List.mem_of_mem_drop h)

theorem insR_len {l : List Rw} {x : Rw} (hr : Rise l) : (insR l x).length ≤ l.length + 1 := by
  have := (placeF_is x.key hr).1
  unfold insR
  simp only [List.length_append, List.length_take, List.length_drop, List.length_singleton]
  split <;> omega

/-- Rows, parted till each part fits into a page. -/
def partF (l : List Rw) : List (List Rw) :=
  if _h : lnP l ≤ 300 ∨ l.length = 0 then [l] else l.take (max 1 (wn l (lnP l / 2))) :: partF (l.drop (max 1 (wn l (lnP l / 2))))
termination_by l.length
decreasing_by
  rw [List.length_drop]
  omega

theorem lnP_zero {l : List Rw} (h : l.length = 0) : lnP l ≤ 300 := by
  rw [List.eq_nil_of_length_eq_zero h]
  decide

theorem partF_fit {l : List Rw} (h : lnP l ≤ 300) : partF l = [l] := by rw [partF, dif_pos (.inl h)]
theorem partF_more {l : List Rw} (h : ¬ lnP l ≤ 300) : partF l = l.take (max 1 (wn l (lnP l / 2))) :: partF (l.drop (max 1 (wn l (lnP l / 2)))) := by
  rw [partF, dif_neg]
  rintro (c | c)
  · exact h c
  · exact h (lnP_zero c)

/-- A part leaves something behind it. -/
theorem part_lt {l : List Rw} (h : ¬ lnP l ≤ 300) (h2 : ∀ x ∈ l, lnP [x] ≤ 300) : max 1 (wn l (lnP l / 2)) < l.length := by
  have h0 : l.length ≠ 0 := fun c => h (lnP_zero c)
  have h1 : l.length ≠ 1 := fun c => by
    match l, c with
    | [x], _ => exact h (h2 x (by simp))
  obtain ⟨w1, w2, _⟩ := wn_is l (lnP l / 2)
  have : wn l (lnP l / 2) ≠ l.length := fun c => by
    have := w2 (l.length - 1) (by omega)
    rw [show l.length - 1 + 1 = l.length by omega, List.take_length] at this
    have : 3 ≤ lnP l := by rw [lnP_is]; omega
    omega
  omega

theorem partF_flat : ∀ (n : Nat) (l : List Rw), l.length ≤ n → (partF l).flatten = l
  | 0, l, h => by rw [partF_fit (lnP_zero (by omega))]; simp
  | n + 1, l, h => by
    by_cases hl : lnP l ≤ 300
    · rw [partF_fit hl]; simp
    · rw [partF_more hl]
      have h0 : l.length ≠ 0 := fun c => hl (lnP_zero c)
      have := partF_flat n (l.drop (max 1 (wn l (lnP l / 2)))) (by rw [List.length_drop]; omega)
      rw [List.flatten_cons, this, List.take_append_drop]

theorem partF_some : ∀ (n : Nat) (l : List Rw), l.length ≤ n → 0 < l.length → (∀ x ∈ l, lnP [x] ≤ 300) → ∀ p ∈ partF l, 0 < p.length
  | 0, l, h, h0, _ => by omega
  | n + 1, l, h, h0, h2 => by
    by_cases hl : lnP l ≤ 300
    · rw [partF_fit hl]; intro p hp; simp at hp; subst hp; exact h0
    · rw [partF_more hl]
      have hlt := part_lt hl h2
      intro p hp
      rcases List.mem_cons.1 hp with rfl | hp
      · rw [List.length_take]; omega
      · exact partF_some n _ (by rw [List.length_drop]; omega) (by rw [List.length_drop]; omega) (fun x hx => h2 x (List.mem_of_mem_drop hx)) p hp

theorem partF_len (l : List Rw) (h0 : 0 < l.length) (h2 : ∀ x ∈ l, lnP [x] ≤ 300) : (partF l).length ≤ l.length := by
  have h1 : ∀ (o : List (List Rw)), (∀ p ∈ o, 0 < p.length) → o.length ≤ o.flatten.length := by
    intro o
    induction o with
    | nil => intro _; simp
    | cons p o ih =>
      intro hp
      have := ih (fun q hq => hp q (by simp [hq]))
      have := hp p (by simp)
      simp at *
      omega
  have := h1 (partF l) (partF_some l.length l (Nat.le_refl _) h0 h2)
  rw [partF_flat l.length l (Nat.le_refl _)] at this
  exact this

theorem partF_mem {l p : List Rw} (h : p ∈ partF l) : (∀ x ∈ p, x ∈ l) ∧ p.length ≤ l.length := by
  have hf := partF_flat l.length l (Nat.le_refl _)
  refine ⟨fun x hx => ?_, ?_⟩
  · rw [← hf]; exact List.mem_flatten.2 ⟨p, h, hx⟩
  · obtain ⟨s, t, he⟩ := List.append_of_mem h
    rw [← hf, he]
    simp
    omega

/-- The page that a row is put into. -/
def atP (gs : List (List Rw)) (key : ByteArray) : Nat := min (plF gs key) (gs.length - 1)

/-- The pages with a row. -/
def putG (gs : List (List Rw)) (x : Rw) : List (List Rw) := gs.take (atP gs x.key) ++ (partF (insR ((gs[atP gs x.key]?).getD []) x) ++ gs.drop (atP gs x.key + 1))

/-- A row that is in a page fits into one alone. -/
theorem alone_fit {g : List Rw} {x : Rw} (hx : x ∈ g) (hl : lnP g ≤ 300) : lnP [x] ≤ 300 := by
  obtain ⟨s, t, rfl⟩ := List.append_of_mem hx
  have h1 := lnP_alone s x
  have h2 : lnP (s ++ [x]) ≤ lnP (s ++ x :: t) := by
    rw [show s ++ x :: t = (s ++ [x]) ++ t by simp]
    have : ∀ (t q : List Rw), lnP q ≤ lnP (q ++ t) := by
      intro t
      induction t with
      | nil => intro q; simp
      | cons y t ih =>
        intro q
        have h3 := lnP_snoc q y
        have h4 := ih (q ++ [y])
        rw [show q ++ y :: t = (q ++ [y]) ++ t by simp]
        omega
    exact this t _
  omega

theorem plF_is {gs : List (List Rw)} (key : ByteArray) : plF gs key ≤ gs.length ∧ (∀ (i : Nat) (a : List Rw), i < plF gs key → gs[i]? = some a → ltK (endK a) key = true) ∧ (∀ a, gs[plF gs key]? = some a → ltK (endK a) key = false) := by
  unfold plF
  induction gs with
  | nil => simp
  | cons g gs ih =>
    cases h : ltK (endK g) key
    · simp [List.takeWhile, h]
    · simp only [List.takeWhile, h, List.length_cons]
      refine ⟨by omega, fun i a hi ha => ?_, fun a ha => ih.2.2 a (by simpa using ha)⟩
      cases i with
      | zero => simp at ha; subst ha; exact h
      | succ i => exact ih.2.1 i a (by omega) (by simpa using ha)

theorem putG_book {gs : List (List Rw)} {x : Rw} (hb : Book gs) (hl : ∀ g ∈ gs, lnP g ≤ 300) (h0 : gs.length ≠ 0) (hx : sz1 x = true) (hx1 : lnP [x] ≤ 300) : Book (putG gs x) := by
  obtain ⟨p1, p2, p3⟩ := plF_is (gs := gs) x.key
  obtain ⟨a, ha⟩ : ∃ a, atP gs x.key = a := ⟨_, rfl⟩
  have hal : a < gs.length := by rw [← ha]; unfold atP; omega
  obtain ⟨l, hl'⟩ : ∃ l, gs[a]? = some l := ⟨_, List.getElem?_eq_getElem hal⟩
  have hlm := List.mem_of_getElem? hl'
  obtain ⟨lg, l0⟩ := hb.good l hlm
  have lr := goodR_rise lg
  have l59 := fit59 lr (hl l hlm)
  have hil := insR_len (x := x) lr
  have hal1 : ∀ y ∈ insR l x, lnP [y] ≤ 300 := fun y hy => by
    rcases insR_mem hy with rfl | hy
    · exact hx1
    · exact alone_fit hy (hl l hlm)
  have hi0 : 0 < (insR l x).length := by unfold insR; rw [List.length_append, List.length_append, List.length_singleton]; omega
  have hsz : ∀ y ∈ insR l x, sz1 y = true := fun y hy => by
    rcases insR_mem hy with rfl | hy
    · exact hx
    · exact (goodR_iff.1 lg).2.1 y hy
  have hsplit : gs = gs.take a ++ (l :: gs.drop (a + 1)) := by
    conv => lhs; rw [← List.take_append_drop a gs]
    congr 1
    obtain ⟨h1, rfl⟩ := List.getElem?_eq_some_iff.1 hl'
    exact List.drop_eq_getElem_cons h1
  have hpw := hb.pw
  rw [hsplit] at hpw
  unfold PW at hpw
  rw [List.flatten_append, List.flatten_cons, List.pairwise_append, List.pairwise_append] at hpw
  obtain ⟨q1, ⟨q2, q3, q4⟩, q5⟩ := hpw
  unfold putG
  rw [ha, hl']
  show Book (gs.take a ++ (partF (insR l x) ++ gs.drop (a + 1)))
  refine book_of (fun g hg => ?_) ?_
  · have old : ∀ g ∈ gs, g.length ≤ 60 ∧ 0 < g.length ∧ ∀ x ∈ g, sz1 x = true := fun g hg => by
      obtain ⟨b1, b2⟩ := hb.good g hg
      exact ⟨(goodR_iff.1 b1).1, b2, (goodR_iff.1 b1).2.1⟩
    rcases List.mem_append.1 hg with hg | hg
    · exact old g (List.mem_of_mem_take hg)
    · rcases List.mem_append.1 hg with hg | hg
      · obtain ⟨m1, m2⟩ := partF_mem hg
        exact ⟨by omega, partF_some _ _ (Nat.le_refl _) hi0 hal1 g hg, fun y hy => hsz y (m1 y hy)⟩
      · exact old g (List.mem_of_mem_drop hg)
  · unfold PW
    rw [List.flatten_append, List.flatten_append, partF_flat _ _ (Nat.le_refl _), List.pairwise_append, List.pairwise_append]
    have hlow : ∀ y ∈ (gs.take a).flatten, ltK y.key x.key = true := fun y hy => by
      obtain ⟨g, hg, hy⟩ := List.mem_flatten.1 hy
      obtain ⟨i, hi⟩ := List.getElem?_of_mem hg
      have hil2 := (List.getElem?_eq_some_iff.1 hi).1
      rw [List.length_take] at hil2
      rw [List.getElem?_take_of_lt (by omega)] at hi
      have hap : a ≤ plF gs x.key := by rw [← ha]; unfold atP; omega
      have h2 := p2 i g (by omega) hi
      rcases mem_end (goodR_rise (hb.good g (List.mem_of_getElem? hi)).1) hy with e | e
      · rw [e]; exact h2
      · exact ltK_trans e h2
    have hhigh : ∀ y ∈ (gs.drop (a + 1)).flatten, ltK x.key y.key = true := fun y hy => by
      by_cases hlast : a = plF gs x.key
      · have h3 := p3 l (by rw [← hlast]; exact hl')
        have h4 := q4 (rwAt l (l.length - 1)) (List.mem_of_getElem? (rwAt_lt (by omega))) y hy
        have h4' : ltK (endK l) y.key = true := h4
        by_cases e : endK l = x.key
        · rw [← e]; exact h4'
        · exact ltK_trans (ltK_tot h3 e) h4'
      · exfalso
        have : a = gs.length - 1 := by rw [← ha] at hlast ⊢; unfold atP at hlast ⊢; omega
        rw [List.drop_eq_nil_of_le (by omega)] at hy
        simp at hy
    refine ⟨q1, ⟨insR_pw q2, q3, fun y hy z hz => ?_⟩, fun y hy z hz => ?_⟩
    · rcases insR_mem hy with rfl | hy
      · exact hhigh z hz
      · exact q4 y hy z hz
    · rcases List.mem_append.1 hz with hz | hz
      · rcases insR_mem hz with rfl | hz
        · exact hlow y hy
        · exact q5 y hy z (List.mem_append_left _ hz)
      · exact q5 y hy z (List.mem_append_right _ hz)

/-- The pages of a book, where they may be. -/
def ansG (b : List (List Rw)) : Option (List ByteArray) := if b.length ≤ 40 ∧ (b.all fun g => decide (lnP g ≤ 300)) = true then some (b.map pgB) else none

theorem ansG_spec {b : List (List Rw)} (hb : Book b) : (bookF (b.map pgB)).isSome = (ansG b).isSome := by
  rw [bookF_back hb]
  unfold ansG
  by_cases h : b.length ≤ 40 ∧ ∀ g ∈ b, lnP g ≤ 300
  · rw [if_pos h, if_pos ⟨h.1, by rw [List.all_eq_true]; intro g hg; exact decide_eq_true (h.2 g hg)⟩]
    rfl
  · have hn : ¬ (b.length ≤ 40 ∧ (b.all fun g => decide (lnP g ≤ 300)) = true) := by
      rintro ⟨h1, h2⟩
      rw [List.all_eq_true] at h2
      exact h ⟨h1, fun g hg => by simpa using h2 g hg⟩
    rw [if_neg h, if_neg hn]
    rfl

theorem ansG_some {b : List (List Rw)} {ss : List ByteArray} (h : ansG b = some ss) : ss = b.map pgB ∧ b.length ≤ 40 := by
  unfold ansG at h
  split at h
  · rename_i hc
    exact ⟨(Option.some.inj h).symm, hc.1⟩
  · cases h
end Go.Proofs.YticogafoopkflaaDoor
