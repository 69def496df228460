/- What FnTree asks, without memory: a row that is put is there with all others, and dropped again the others are left. -/
import Derived.Test.YticogafoopkflaaDoorPFnd6
namespace Go.Proofs.YticogafoopkflaaDoor

/-- Rows with another key. -/
def notK (key : ByteArray) (l : List Rw) : List Rw := l.filter (fun y => decide (y.key ≠ key))

theorem notK_app (key : ByteArray) (a b : List Rw) : notK key (a ++ b) = notK key a ++ notK key b := List.filter_append ..
theorem notK_all {key : ByteArray} {l : List Rw} (h : ∀ y ∈ l, y.key ≠ key) : notK key l = l := List.filter_eq_self.2 fun y hy => decide_eq_true (h y hy)

theorem rowsF_is {ss : List ByteArray} {gs : List (List Rw)} (lo hi : ByteArray) (h : bookF ss = some gs) : rowsF ss lo hi = gs.flatten.filter (inK lo hi) := by
  unfold rowsF
  rw [h]
  show fromK lo hi gs gs.length = _
  unfold fromK
  rw [List.take_length, List.filter_flatten]
  rfl

/-- The two ways in which rows are taken out go past each other. -/
theorem notK_from (key lo hi : ByteArray) (l : List Rw) : notK key (l.filter (inK lo hi)) = (notK key l).filter (inK lo hi) := by
  unfold notK
  rw [List.filter_filter, List.filter_filter]
  congr 1
  funext y
  exact Bool.and_comm _ _

theorem insR_not {l : List Rw} {x : Rw} (hr : Rise l) : notK x.key (insR l x) = notK x.key l := by
  have h1 := take_low (key := x.key) hr
  have h2 := drop_high (key := x.key) hr
  have e3 : notK x.key [x] = [] := by unfold notK; simp
  have ea : notK x.key (insR l x) = l.take (placeF l x.key) ++ l.drop (if thereF l x.key then placeF l x.key + 1 else placeF l x.key) := by
    unfold insR
    rw [notK_app, notK_app, e3, List.nil_append, notK_all (fun y hy => ltK_ne (h1 y hy)), notK_all (fun y hy => (ltK_ne (h2 y hy)).symm)]
  rw [ea]
  cases ht : thereF l x.key
  · rw [notK_all (rowIn_not hr ht)]
    simp only [Bool.false_eq_true, if_false]
    exact List.take_append_drop _ _
  · have := filter_there hr ht
    unfold notK
    rw [this]
    simp only [if_true]
    rfl

theorem putG_flat {gs : List (List Rw)} {x : Rw} (hb : Book gs) (h0 : gs.length ≠ 0) : notK x.key (putG gs x).flatten = notK x.key gs.flatten ∧ x ∈ (putG gs x).flatten := by
  have hal : atP gs x.key < gs.length := by unfold atP; omega
  obtain ⟨l, hl⟩ : ∃ l, gs[atP gs x.key]? = some l := ⟨_, List.getElem?_eq_getElem hal⟩
  have lr := goodR_rise (hb.good l (List.mem_of_getElem? hl)).1
  have e1 : (putG gs x).flatten = (gs.take (atP gs x.key)).flatten ++ (insR l x ++ (gs.drop (atP gs x.key + 1)).flatten) := by
    unfold putG
    rw [hl]
    show (gs.take _ ++ (partF (insR l x) ++ gs.drop _)).flatten = _
    rw [List.flatten_append, List.flatten_append, partF_flat _ _ (Nat.le_refl _)]
  have e2 : gs.flatten = (gs.take (atP gs x.key)).flatten ++ (l ++ (gs.drop (atP gs x.key + 1)).flatten) := by
    conv => lhs; rw [← List.take_append_drop (atP gs x.key) gs, drop_succ hl]
    simp
  constructor
  · rw [e1, e2, notK_app, notK_app, notK_app, notK_app, insR_not lr]
  · rw [e1]
    refine List.mem_append_right _ (List.mem_append_left _ ?_)
    unfold insR
    simp

/-- Pages of a book that may be one are read as it. -/
theorem ansG_read {G : List (List Rw)} {q : List ByteArray} (hb : Book G) (h : ansG G = some q) : q = G.map pgB ∧ bookF q = some G := by
  obtain ⟨rfl, h40⟩ := ansG_some h
  refine ⟨rfl, ?_⟩
  have e := ansG_spec hb
  rw [h] at e
  have e2 := bookF_back hb
  by_cases hc : G.length ≤ 40 ∧ ∀ g ∈ G, lnP g ≤ 300
  · rw [e2, if_pos hc]
  · rw [e2, if_neg hc] at e
    cases e

theorem book_one {x : Rw} (hx : okPB [x] = true) : Book [[x]] := by
  obtain ⟨h1, h2, h3⟩ := okPB_sz hx
  refine ⟨fun g hg => by simp at hg; subst hg; exact ⟨h1, by simp⟩, fun i a b ha hb => ?_⟩
  have := (List.getElem?_eq_some_iff.1 hb).1
  simp at this

/-- What is put is there with all others. -/
theorem put_tree {ss q : List ByteArray} {x : Rw} (h : putA ss x = some q) : ∃ gs G, bookF ss = some gs ∧ bookF q = some G ∧ x ∈ G.flatten ∧ notK x.key G.flatten = notK x.key gs.flatten := by
  cases hb : bookF ss with
  | none => rw [putA_bad hb] at h; cases h
  | some gs =>
    cases hx : okPB [x] with
    | false => rw [putA_no hx] at h; cases h
    | true =>
      by_cases h0 : gs.length = 0
      · rw [putA_one hb hx h0] at h
        obtain rfl := Option.some.inj h
        have hbk := bookF_back (book_one hx)
        rw [if_pos ⟨by simp, fun g hg => by simp at hg; subst hg; exact (okPB_sz hx).2.2⟩] at hbk
        refine ⟨gs, [[x]], rfl, hbk, by simp, ?_⟩
        rw [List.eq_nil_of_length_eq_zero h0]
        simp [notK]
      · obtain ⟨b1, b2, b3⟩ := bookF_book hb
        have hx1 := okPB_sz hx
        have hbook := putG_book b1 b2 h0 hx1.2.1 hx1.2.2
        by_cases hf : (putG gs x).flatten.length ≤ 60
        · rw [putA_more hb hx h0 hf] at h
          obtain ⟨_, hr⟩ := ansG_read hbook h
          obtain ⟨p1, p2⟩ := putG_flat (x := x) b1 h0
          exact ⟨gs, putG gs x, rfl, hr, p2, p1⟩
        · rw [putA_full hb hx h0 hf] at h
          cases h

/-- What is dropped leaves the others. -/
theorem drop_tree {q : List ByteArray} {G : List (List Rw)} {x : Rw} (h : bookF q = some G) (hx : x ∈ G.flatten) : ∃ d G', dropA q x.key = some d ∧ d = G'.map pgB ∧ bookF d = some G' ∧ G'.flatten = notK x.key G.flatten := by
  obtain ⟨hb, hfit, h40⟩ := bookF_book h
  obtain ⟨g, hg, hxg⟩ := List.mem_flatten.1 hx
  obtain ⟨i, hi⟩ := List.getElem?_of_mem hg
  have hil := (List.getElem?_eq_some_iff.1 hi).1
  have hp := plF_row hb hi hxg
  have gr := goodR_rise (hb.good g hg).1
  have ht : thereF g x.key = true := by
    cases ht : thereF g x.key with
    | true => rfl
    | false => exact absurd rfl (rowIn_not gr ht x hxg)
  have hda := dropA_yes h (by rw [hp]; exact hi) ht
  rw [hp] at hda
  have hbook := dropG_book hb hi (dropR_sub g x.key)
  obtain ⟨c1, c2, c3⟩ := dropG_cases G i (dropR g x.key) hil
  have hfits : ∀ p ∈ dropG G i (dropR g x.key), lnP p ≤ 300 := fun p hp => by
    rcases c2 p hp with h1 | ⟨rfl, _⟩ | ⟨h1, _⟩
    · exact hfit p h1
    · exact Nat.le_trans (dropR_fit gr ht) (hfit g hg)
    · exact h1
  have hans : ansG (dropG G i (dropR g x.key)) = some ((dropG G i (dropR g x.key)).map pgB) := by
    unfold ansG
    rw [if_pos ⟨by omega, by rw [List.all_eq_true]; intro p hp; exact decide_eq_true (hfits p hp)⟩]
  obtain ⟨_, hr⟩ := ansG_read hbook hans
  refine ⟨_, _, by rw [hda, hans], rfl, hr, ?_⟩
  rw [c1]
  have e2 : G.flatten = (G.take i).flatten ++ (g ++ (G.drop (i + 1)).flatten) := by
    conv => lhs; rw [← List.take_append_drop i G, drop_succ hi]
    simp
  have hpw := hb.pw
  rw [e2] at hpw
  unfold PW at hpw
  rw [List.pairwise_append, List.pairwise_append] at hpw
  obtain ⟨_, ⟨_, _, q4⟩, q5⟩ := hpw
  rw [e2, notK_app, notK_app, notK_all (fun y hy => ltK_ne (q5 y hy x (List.mem_append_left _ hxg))), notK_all (fun y hy => (ltK_ne (q4 x hxg y hy)).symm)]
  congr 2
  exact (filter_there gr ht).symm

theorem leastF_pos {ss : List ByteArray} (h : ∀ s ∈ ss, 1 ≤ s.size) : ∀ k, 0 < k → k ≤ ss.length → 1 ≤ leastF ss k
  | 0, h0, _ => by omega
  | k + 1, _, hl => by
    obtain ⟨s, hs⟩ : ∃ s, ss[k]? = some s := ⟨_, List.getElem?_eq_getElem (by omega)⟩
    have h1 := h s (List.mem_of_getElem? hs)
    by_cases hk : k = 0
    · subst hk; rw [leastF_zero hs]; exact h1
    · by_cases h2 : s.size < leastF ss k
      · rw [leastF_yes hs h2]; exact h1
      · rw [leastF_no hs hk h2]; exact leastF_pos h k (by omega) (by omega)

theorem least_tree {d : List ByteArray} {G : List (List Rw)} (h : d = G.map pgB) (hb : bookF d = some G) : (0 < leastA d ↔ 0 < d.length) := by
  unfold leastA
  rw [hb]
  simp only [Option.isSome_some, if_true]
  have hs : ∀ s ∈ d, 1 ≤ s.size := fun s hm => by
    rw [h] at hm
    obtain ⟨g, _, rfl⟩ := List.mem_map.1 hm
    rw [pgB_size, lnP_is]
    omega
  constructor
  · intro h1
    cases hd : d.length with
    | zero => rw [hd] at h1; simp [leastF] at h1
    | succ n => omega
  · intro h1
    have := leastF_pos hs d.length h1 (Nat.le_refl _)
    omega
end Go.Proofs.YticogafoopkflaaDoor
