/- Texts of mine laid together: PBk6, PPut6, PPutA, PDropA, PFnd6. -/
import Derived.Test.YtbgomhgohphglaaDoorPRT6
import Derived.Test.YtbgomhgohphglaaDoorPRow6
import Derived.Test.YtbgomhgohphglaaDoorBkV
namespace Go.Proofs.YtbgomhgohphglaaDoor

theorem shL_less : ∀ (x y : List UInt8), Op.bytesLess x y = true → shL x y < y.length
  | _, [], h => by simp [Op.bytesLess] at h
  | [], b :: y, _ => by simp [shL]
  | a :: x, b :: y, h => by
    simp only [Op.bytesLess, Bool.or_eq_true, Bool.and_eq_true, decide_eq_true_eq, beq_iff_eq] at h
    unfold shL
    rcases h with h | ⟨rfl, h⟩
    · rw [if_neg (UInt8.ne_of_lt h)]
      simp
    · rw [if_pos rfl]
      have := shL_less x y h
      simp
      omega

theorem shB_less {p k : ByteArray} (h : ltK p k = true) : shB p k < k.size := by
  unfold ltK at h
  rw [ByteArray.toList_eq, ByteArray.toList_eq] at h
  have := shL_less _ _ h
  rw [Array.length_toList] at this
  exact this

/-- The keys rise behind p. -/
def ChainK : ByteArray → List Rw → Prop
  | _, [] => True
  | p, x :: l => ltK p x.key = true ∧ ChainK x.key l

theorem chain_len : ∀ (l : List Rw) (p : ByteArray), ChainK p l → 5 * l.length ≤ (rowsI p l).length
  | [], _, _ => Nat.zero_le _
  | x :: l, p, h => by
    have h1 := shB_less h.1
    have h2 := rowI_len p x
    have h3 := chain_len l x.key h.2
    show 5 * (l.length + 1) ≤ (rowI p x ++ rowsI x.key l).length
    rw [List.length_append]
    omega

theorem rise_chain : ∀ (l : List Rw) (x : Rw), Rise (x :: l) → ChainK x.key l
  | [], _, _ => trivial
  | y :: l, x, h => by
    refine ⟨h 0 1 (by omega) (by simp), rise_chain l y fun i j hij hj => ?_⟩
    have := h (i + 1) (j + 1) (by omega) (by simp at hj ⊢; omega)
    simpa [rwAt] using this

/-- Rows that fit into a page are at most 59. -/
theorem fit59 {g : List Rw} (hg : Rise g) (hl : lnP g ≤ 300) : g.length ≤ 59 := by
  cases g with
  | nil => simp
  | cons x l =>
    have h1 := chain_len l x.key (rise_chain l x hg)
    have h2 := rowI_len ⟨#[]⟩ x
    rw [shB_nil] at h2
    rw [lnP_is] at hl
    have h3 : (rowsI ⟨#[]⟩ (x :: l)).length = (rowI ⟨#[]⟩ x).length + (rowsI x.key l).length := by
      show (rowI ⟨#[]⟩ x ++ rowsI x.key l).length = _
      rw [List.length_append]
    simp
    omega

/-- Pages of good rows that rise from each to the next. -/
structure Book (gs : List (List Rw)) : Prop where
  good : ∀ g ∈ gs, goodR g = true ∧ 0 < g.length
  rise : ∀ (i : Nat) (a b : List Rw), gs[i]? = some a → gs[i + 1]? = some b → ltK (endK a) (begK b) = true

/-- A page that is read is no longer than it may be. -/
theorem readP_fit {s : ByteArray} (h : codeP s = 0) : lnP (readP s) ≤ 300 := by
  unfold codeP at h
  unfold readP
  cases h1 : lenOk s
  · rw [h1] at h; simp at h
  cases h2 : markOk s
  · rw [h1, h2] at h; simp at h
  rw [h1, h2] at h
  simp only [if_true, Bool.and_self] at h ⊢
  cases h3 : readL s with
  | none => rw [h3] at h; simp at h
  | some l =>
    unfold readL at h3
    split at h3
    · cases h3
    · rename_i l' _
      split at h3
      · rename_i hp
        obtain rfl := Option.some.inj h3
        unfold isPage at hp
        rw [Bool.and_eq_true, decide_eq_true_eq] at hp
        unfold lenOk at h1
        rw [Bool.and_eq_true, decide_eq_true_eq, decide_eq_true_eq] at h1
        show lnP l' ≤ 300
        have : (byT (pageI l')).size = lnP l' := byT_size _
        rw [hp.2] at this
        omega
      · cases h3

theorem bkF_book : ∀ (ss : List ByteArray) (acc gs : List (List Rw)), bkF acc ss = some gs → Book acc → (∀ g ∈ acc, lnP g ≤ 300) → Book gs ∧ ∀ g ∈ gs, lnP g ≤ 300
  | [], acc, gs, h, ha, hl => by simp [bkF] at h; subst h; exact ⟨ha, hl⟩
  | s :: ss, acc, gs, h, ha, hl => by
    unfold bkF at h
    split at h
    · rename_i ho
      unfold okNext at ho
      rw [Bool.and_eq_true, decide_eq_true_eq] at ho
      refine bkF_book ss _ gs h ⟨fun g hg => ?_, fun i a b h1 h2 => ?_⟩ (fun g hg => ?_)
      · rcases List.mem_append.1 hg with hg | hg
        · exact ha.good g hg
        · simp at hg
          subst hg
          exact ⟨readP_good ho.1, readP_some ho.1⟩
      · by_cases c : i + 1 < acc.length
        · rw [List.getElem?_append_left (by omega)] at h1
          rw [List.getElem?_append_left c] at h2
          exact ha.rise i a b h1 h2
        · have hi := (List.getElem?_eq_some_iff.1 h2).1
          simp at hi
          have e : acc.length = i + 1 := by omega
          rw [List.getElem?_append_left (by omega)] at h1
          rw [List.getElem?_append_right (by omega), e] at h2
          simp at h2
          subst h2
          have hgl : acc.getLast? = some a := by rw [List.getLast?_eq_getElem?, e]; exact h1
          rw [hgl] at ho
          exact ho.2
      · rcases List.mem_append.1 hg with hg | hg
        · exact hl g hg
        · simp at hg
          subst hg
          exact readP_fit ho.1
    · cases h

theorem bookF_book {ss : List ByteArray} {gs : List (List Rw)} (h : bookF ss = some gs) : Book gs ∧ (∀ g ∈ gs, lnP g ≤ 300) ∧ gs.length ≤ 40 := by
  have h40 := (bookF_is h).1
  unfold bookF at h
  split at h
  · obtain ⟨h1, h2⟩ := bkF_book ss [] gs h ⟨fun g hg => by simp at hg, fun i a b h1 => by simp at h1⟩ (fun g hg => by simp at hg)
    exact ⟨h1, h2, h40⟩
  · cases h

theorem bkF_back : ∀ (gs acc : List (List Rw)), Book (acc ++ gs) → (∀ g ∈ gs, lnP g ≤ 300) → bkF acc (gs.map pgB) = some (acc ++ gs)
  | [], acc, _, _ => by simp [bkF]
  | g :: gs, acc, hb, hl => by
    obtain ⟨hg, hg0⟩ := hb.good g (by simp)
    obtain ⟨hc, hr⟩ := page_back hg0 hg (hl g (by simp))
    have ho : okNext acc (pgB g) = true := by
      unfold okNext
      rw [hc, hr]
      cases h : acc.getLast? with
      | none => rfl
      | some a =>
        have h0 : acc.length ≠ 0 := fun e => by rw [List.eq_nil_of_length_eq_zero e] at h; simp at h
        rw [List.getLast?_eq_getElem?] at h
        have := hb.rise (acc.length - 1) a g (by rw [List.getElem?_append_left (by omega)]; exact h) (by rw [List.getElem?_append_right (by omega), show acc.length - 1 + 1 - acc.length = 0 by omega]; rfl)
        simpa using this
    show bkF acc (pgB g :: gs.map pgB) = _
    unfold bkF
    rw [ho, if_pos rfl, hr, bkF_back gs (acc ++ [g]) (by simpa using hb) (fun x hx => hl x (by simp [hx]))]
    simp

theorem bkF_long : ∀ (gs acc : List (List Rw)), Book (acc ++ gs) → (∃ g ∈ gs, ¬ lnP g ≤ 300) → bkF acc (gs.map pgB) = none
  | [], _, _, h => by obtain ⟨g, hg, _⟩ := h; simp at hg
  | g :: gs, acc, hb, h => by
    show bkF acc (pgB g :: gs.map pgB) = none
    unfold bkF
    by_cases hl : lnP g ≤ 300
    · obtain ⟨hg, hg0⟩ := hb.good g (by simp)
      obtain ⟨_, hr⟩ := page_back hg0 hg hl
      split
      · rw [hr]
        refine bkF_long gs (acc ++ [g]) (by simpa using hb) ?_
        obtain ⟨x, hx, hxl⟩ := h
        rcases List.mem_cons.1 hx with rfl | hx
        · exact absurd hl hxl
        · exact ⟨x, hx, hxl⟩
      · rfl
    · rw [if_neg]
      unfold okNext
      rw [page_long hl]
      simp

/-- What is written is read. -/
theorem bookF_back {gs : List (List Rw)} (hb : Book gs) : bookF (gs.map pgB) = if gs.length ≤ 40 ∧ (∀ g ∈ gs, lnP g ≤ 300) then some gs else none := by
  unfold bookF
  rw [List.length_map]
  by_cases h40 : gs.length ≤ 40
  · rw [if_pos h40]
    by_cases hl : ∀ g ∈ gs, lnP g ≤ 300
    · rw [if_pos ⟨h40, hl⟩]
      have := bkF_back gs [] (by simpa using hb) hl
      simpa using this
    · rw [if_neg (fun c => hl c.2)]
      refine bkF_long gs [] (by simpa using hb) ?_
      apply Classical.byContradiction
      intro hn
      exact hl fun g hg => Classical.byContradiction fun c => hn ⟨g, hg, c⟩
  · rw [if_neg h40, if_neg (fun c => h40 c.1)]

theorem rise_end {g : List Rw} (hg : Rise g) (h0 : 0 < g.length) : begK g = endK g ∨ ltK (begK g) (endK g) = true := by
  by_cases h : g.length = 1
  · left
    unfold begK endK
    rw [h]
  · right
    exact hg 0 (g.length - 1) (by omega) (by omega)

/-- The last keys rise. -/
theorem Book.ends {gs : List (List Rw)} (hb : Book gs) : ∀ (d i : Nat) (a b : List Rw), gs[i]? = some a → gs[i + 1 + d]? = some b → ltK (endK a) (endK b) = true
  | 0, i, a, b, h1, h2 => by
    have h3 := hb.rise i a b h1 h2
    obtain ⟨hg, h0⟩ := hb.good b (List.mem_of_getElem? h2)
    rcases rise_end (goodR_rise hg) h0 with e | e
    · rw [← e]; exact h3
    · exact ltK_trans h3 e
  | d + 1, i, a, b, h1, h2 => by
    have hlt := (List.getElem?_eq_some_iff.1 h2).1
    obtain ⟨c, hc⟩ : ∃ c, gs[i + 1 + d]? = some c := ⟨_, List.getElem?_eq_getElem (by omega)⟩
    exact ltK_trans (hb.ends d i a c h1 hc) (hb.ends 0 (i + 1 + d) c b hc h2)

/-- The page that a key belongs to, looked for from the front. -/
def plF (gs : List (List Rw)) (key : ByteArray) : Nat := (gs.takeWhile fun g => ltK (endK g) key).length

theorem takeWhile_at {α : Type} (p : α → Bool) : ∀ (l : List α) (k : Nat), (∀ (i : Nat) (a : α), i < k → l[i]? = some a → p a = true) → (∀ a, l[k]? = some a → p a = false) → k ≤ l.length → (l.takeWhile p).length = k
  | [], k, _, _, h => by simp at h; simp [h]
  | x :: l, 0, _, h2, _ => by
    have := h2 x rfl
    simp [List.takeWhile, this]
  | x :: l, k + 1, h1, h2, h => by
    have hx := h1 0 x (by omega) rfl
    have := takeWhile_at p l k (fun i a hi ha => h1 (i + 1) a (by omega) (by simpa using ha)) (fun a ha => h2 a (by simpa using ha)) (by simpa using h)
    simp [List.takeWhile, hx, this]

theorem pfF_is {gs : List (List Rw)} {key : ByteArray} (hb : Book gs) : ∀ (n lo hi k : Nat), hi - lo ≤ n → lo ≤ hi → hi ≤ gs.length → (∀ (i : Nat) (a : List Rw), i < lo → gs[i]? = some a → ltK (endK a) key = true) → (∀ (i : Nat) (a : List Rw), hi ≤ i → gs[i]? = some a → ltK (endK a) key = false) → (pfF gs key lo hi k).1 = plF gs key
  | 0, lo, hi, k, hn, h1, h2, h3, h4 => by
    rw [pfF_end (by omega)]
    obtain rfl : lo = hi := by omega
    exact (takeWhile_at _ gs lo h3 (fun a ha => h4 lo a (Nat.le_refl _) ha) h2).symm
  | n + 1, lo, hi, k, hn, h1, h2, h3, h4 => by
    by_cases c : lo < hi
    · obtain ⟨m, hm⟩ : ∃ m, (lo + hi) / 2 = m := ⟨_, rfl⟩
      obtain ⟨l, hl⟩ : ∃ l, gs[m]? = some l := ⟨_, List.getElem?_eq_getElem (by omega)⟩
      cases hk : ltK (endK l) key
      · rw [pfF_down c (by rw [hm]; exact hl) hk, hm]
        refine pfF_is hb n lo m _ (by omega) (by omega) (by omega) h3 (fun i a hi' ha => ?_)
        by_cases e : i = m
        · rw [e, hl] at ha
          rw [← Option.some.inj ha]; exact hk
        · cases f : ltK (endK a) key
          · rfl
          · rw [ltK_trans (hb.ends (i - m - 1) m l a hl (by rw [show m + 1 + (i - m - 1) = i by omega]; exact ha)) f] at hk; cases hk
      · rw [pfF_up c (by rw [hm]; exact hl) hk, hm]
        refine pfF_is hb n (m + 1) hi _ (by omega) (by omega) h2 (fun i a hi' ha => ?_) h4
        by_cases e : i = m
        · rw [e, hl] at ha
          rw [← Option.some.inj ha]; exact hk
        · exact ltK_trans (hb.ends (m - i - 1) i a l ha (by rw [show i + 1 + (m - i - 1) = m by omega]; exact hl)) hk
    · rw [pfF_end c]
      obtain rfl : lo = hi := by omega
      exact (takeWhile_at _ gs lo h3 (fun a ha => h4 lo a (Nat.le_refl _) ha) h2).symm

/-- Both ways to look for a page come to the same one. -/
theorem pageF_pl {gs : List (List Rw)} (hb : Book gs) (key : ByteArray) : (pageF gs key).1 = plF gs key :=
  pfF_is hb gs.length 0 gs.length 0 (by omega) (by omega) (Nat.le_refl _) (fun i a hi => by omega) (fun i a h1 h2 => by have := (List.getElem?_eq_some_iff.1 h2).1; omega)
end Go.Proofs.YtbgomhgohphglaaDoor

namespace Go.Proofs.YtbgomhgohphglaaDoor

/-- The keys rise, pair by pair. -/
def PW (l : List Rw) : Prop := l.Pairwise fun a b => ltK a.key b.key = true

theorem rise_pw {l : List Rw} (h : Rise l) : PW l := by
  unfold PW
  rw [List.pairwise_iff_getElem]
  intro i j hi hj hij
  have := h i j hij hj
  unfold rwAt at this
  rw [List.getElem?_eq_getElem hi, List.getElem?_eq_getElem hj] at this
  exact this

theorem pw_rise {l : List Rw} (h : PW l) : Rise l := by
  intro i j hij hj
  unfold PW at h
  rw [List.pairwise_iff_getElem] at h
  have := h i j (by omega) hj hij
  unfold rwAt
  rw [List.getElem?_eq_getElem (show i < l.length by omega), List.getElem?_eq_getElem hj]
  exact this

theorem goodR_iff {l : List Rw} : goodR l = true ↔ l.length ≤ 60 ∧ (∀ x ∈ l, sz1 x = true) ∧ PW l := by
  constructor
  · intro h
    refine ⟨goodR_len h, fun x hx => ?_, rise_pw (goodR_rise h)⟩
    obtain ⟨h0, h1, h2⟩ := goodR_sz h x hx
    exact sz1_true h0 h1 h2
  · rintro ⟨h1, h2, h3⟩
    refine goodR_all h1 fun i hi => ?_
    unfold okAt
    have hm : rwAt l i ∈ l := List.mem_of_getElem? (rwAt_lt hi)
    rw [h2 _ hm, Bool.true_and]
    by_cases e : i = 0
    · simp [e]
    · rw [pw_rise h3 (i - 1) i (by omega) hi]
      simp

theorem mem_end {g : List Rw} (hg : Rise g) {x : Rw} (hx : x ∈ g) : x.key = endK g ∨ ltK x.key (endK g) = true := by
  obtain ⟨i, hi⟩ := List.getElem?_of_mem hx
  have hl := (List.getElem?_eq_some_iff.1 hi).1
  by_cases e : i = g.length - 1
  · left
    unfold endK
    rw [← e, rwAt_of hi]
  · right
    have := hg i (g.length - 1) (by omega) (by omega)
    rw [rwAt_of hi] at this
    exact this

theorem mem_beg {g : List Rw} (hg : Rise g) {x : Rw} (hx : x ∈ g) : begK g = x.key ∨ ltK (begK g) x.key = true := by
  obtain ⟨i, hi⟩ := List.getElem?_of_mem hx
  have hl := (List.getElem?_eq_some_iff.1 hi).1
  by_cases e : i = 0
  · left
    unfold begK
    rw [← e, rwAt_of hi]
  · right
    have := hg 0 i (by omega) hl
    rw [rwAt_of hi] at this
    exact this

theorem lt_mix {a b c d : ByteArray} (h1 : a = b ∨ ltK a b = true) (h2 : ltK b c = true) (h3 : c = d ∨ ltK c d = true) : ltK a d = true := by
  have h4 : ltK a c = true := by
    rcases h1 with rfl | h1
    · exact h2
    · exact ltK_trans h1 h2
  rcases h3 with rfl | h3
  · exact h4
  · exact ltK_trans h4 h3

theorem Book.pw {gs : List (List Rw)} (hb : Book gs) : PW gs.flatten := by
  unfold PW
  rw [List.pairwise_flatten]
  refine ⟨fun g hg => rise_pw (goodR_rise (hb.good g hg).1), ?_⟩
  rw [List.pairwise_iff_getElem]
  intro i j hi hj hij x hx y hy
  have ha : gs[i]? = some gs[i] := List.getElem?_eq_getElem hi
  have hc : gs[j]? = some gs[j] := List.getElem?_eq_getElem hj
  obtain ⟨a1, a2⟩ := hb.good gs[i] (List.getElem_mem hi)
  obtain ⟨c1, c2⟩ := hb.good gs[j] (List.getElem_mem hj)
  have hlt : ltK (endK gs[i]) (begK gs[j]) = true := by
    by_cases e : j = i + 1
    · exact hb.rise i _ _ ha (by rw [← e]; exact hc)
    · obtain ⟨m, hm⟩ : ∃ m, gs[j - 1]? = some m := ⟨_, List.getElem?_eq_getElem (by omega)⟩
      have h1 := hb.ends (j - 1 - i - 1) i _ m ha (by rw [show i + 1 + (j - 1 - i - 1) = j - 1 by omega]; exact hm)
      have h2 := hb.rise (j - 1) m _ hm (by rw [show j - 1 + 1 = j by omega]; exact hc)
      exact ltK_trans h1 h2
  exact lt_mix (mem_end (goodR_rise a1) hx) hlt (mem_beg (goodR_rise c1) hy)

theorem book_of {gs : List (List Rw)} (h1 : ∀ g ∈ gs, g.length ≤ 60 ∧ 0 < g.length ∧ ∀ x ∈ g, sz1 x = true) (h2 : PW gs.flatten) : Book gs := by
  unfold PW at h2
  rw [List.pairwise_flatten] at h2
  refine ⟨fun g hg => ⟨goodR_iff.2 ⟨(h1 g hg).1, (h1 g hg).2.2, h2.1 g hg⟩, (h1 g hg).2.1⟩, fun i a b ha hb => ?_⟩
  have hi := (List.getElem?_eq_some_iff.1 ha)
  have hj := (List.getElem?_eq_some_iff.1 hb)
  have := List.pairwise_iff_getElem.1 h2.2 i (i + 1) hi.1 hj.1 (by omega)
  rw [hi.2, hj.2] at this
  have la := (h1 a (List.mem_of_getElem? ha)).2.1
  have lb := (h1 b (List.mem_of_getElem? hb)).2.1
  exact this (rwAt a (a.length - 1)) (List.mem_of_getElem? (rwAt_lt (by omega))) (rwAt b 0) (List.mem_of_getElem? (rwAt_lt lb))

/-- Rows with x in its place. -/
def insR (l : List Rw) (x : Rw) : List Rw := l.take (placeF l x.key) ++ ([x] ++ l.drop (if thereF l x.key then placeF l x.key + 1 else placeF l x.key))

theorem take_low {l : List Rw} {key : ByteArray} (hr : Rise l) : ∀ y ∈ l.take (placeF l key), ltK y.key key = true := by
  intro y hy
  obtain ⟨i, hi⟩ := List.getElem?_of_mem hy
  obtain ⟨h1, h2, h3⟩ := placeF_is key hr
  have hil := (List.getElem?_eq_some_iff.1 hi).1
  rw [List.length_take] at hil
  rw [List.getElem?_take_of_lt (by omega)] at hi
  have := h2 i (by omega)
  rw [rwAt_of hi] at this
  exact this

theorem drop_high {l : List Rw} {key : ByteArray} (hr : Rise l) : ∀ y ∈ l.drop (if thereF l key then placeF l key + 1 else placeF l key), ltK key y.key = true := by
  intro y hy
  obtain ⟨i, hi⟩ := List.getElem?_of_mem hy
  obtain ⟨h1, h2, h3⟩ := placeF_is key hr
  rw [List.getElem?_drop] at hi
  have hil := (List.getElem?_eq_some_iff.1 hi).1
  cases ht : thereF l key
  · rw [ht] at hi hil
    simp only [Bool.false_eq_true, if_false] at hi hil
    have h4 := h3 (placeF l key + i) (by omega) hil
    rw [rwAt_of hi] at h4
    exact ltK_tot h4 (rowIn_not hr ht y (List.mem_of_getElem? hi))
  · rw [ht] at hi hil
    simp only [if_true] at hi hil
    unfold thereF at ht
    rw [Bool.and_eq_true, decide_eq_true_eq, decide_eq_true_eq, cmpK_zero] at ht
    have h4 := hr (placeF l key) (placeF l key + 1 + i) (by omega) hil
    rw [ht.2, rwAt_of hi] at h4
    exact h4

theorem insR_pw {l : List Rw} {x : Rw} (hr : PW l) : PW (insR l x) := by
  have h := pw_rise hr
  have h1 := take_low (key := x.key) h
  have h2 := drop_high (key := x.key) h
  unfold insR PW
  rw [List.pairwise_append, List.pairwise_append]
  refine ⟨List.Pairwise.sublist (List.take_sublist _ _) hr, ⟨List.pairwise_singleton _ _, List.Pairwise.sublist (List.drop_sublist _ _) hr, fun a ha b hb => ?_⟩, fun a ha b hb => ?_⟩
  · simp at ha
    subst ha
    exact h2 b hb
  · rcases List.mem_append.1 hb with hb | hb
    · simp at hb
      subst hb
      exact h1 a ha
    · exact ltK_trans (h1 a ha) (h2 b hb)

theorem insR_mem {l : List Rw} {x y : Rw} (h : y ∈ insR l x) : y = x ∨ y ∈ l := by
  unfold insR at h
  rcases List.mem_append.1 h with h | h
  · exact .inr (List.mem_of_mem_take h)
  · rcases List.mem_append.1 h with h | h
    · simp at h; exact .inl h
    · exact .inr (List.mem_of_mem_drop h)

theorem insR_len {l : List Rw} {x : Rw} (hr : Rise l) : (insR l x).length ≤ l.length + 1 := by
  have := (placeF_is x.key hr).1
  unfold insR
  simp only [List.length_append, List.length_take, List.length_drop, List.length_singleton]
  split <;> omega

/-- Rows, parted till each part fits into a page. -/
def partF (l : List Rw) : List (List Rw) :=
  if _h : lnP l ≤ 300 ∨ l.length = 0 then [l] else l.take (max 1 (wn l (lnP l / 2))) :: partF (l.drop (max 1 (wn l (lnP l / 2))))
termination_by l.length
decreasing_by
  rw [List.length_drop]
  omega

theorem lnP_zero {l : List Rw} (h : l.length = 0) : lnP l ≤ 300 := by
  rw [List.eq_nil_of_length_eq_zero h]
  decide

theorem partF_fit {l : List Rw} (h : lnP l ≤ 300) : partF l = [l] := by rw [partF, dif_pos (.inl h)]
theorem partF_more {l : List Rw} (h : ¬ lnP l ≤ 300) : partF l = l.take (max 1 (wn l (lnP l / 2))) :: partF (l.drop (max 1 (wn l (lnP l / 2)))) := by
  rw [partF, dif_neg]
  rintro (c | c)
  · exact h c
  · exact h (lnP_zero c)

/-- A part leaves something behind it. -/
theorem part_lt {l : List Rw} (h : ¬ lnP l ≤ 300) (h2 : ∀ x ∈ l, lnP [x] ≤ 300) : max 1 (wn l (lnP l / 2)) < l.length := by
  have h0 : l.length ≠ 0 := fun c => h (lnP_zero c)
  have h1 : l.length ≠ 1 := fun c => by
    match l, c with
    | [x], _ => exact h (h2 x (by simp))
  obtain ⟨w1, w2, _⟩ := wn_is l (lnP l / 2)
  have : wn l (lnP l / 2) ≠ l.length := fun c => by
    have := w2 (l.length - 1) (by omega)
    rw [show l.length - 1 + 1 = l.length by omega, List.take_length] at this
    have : 3 ≤ lnP l := by rw [lnP_is]; omega
    omega
  omega

theorem partF_flat : ∀ (n : Nat) (l : List Rw), l.length ≤ n → (partF l).flatten = l
  | 0, l, h => by rw [partF_fit (lnP_zero (by omega))]; simp
  | n + 1, l, h => by
    by_cases hl : lnP l ≤ 300
    · rw [partF_fit hl]; simp
    · rw [partF_more hl]
      have h0 : l.length ≠ 0 := fun c => hl (lnP_zero c)
      have := partF_flat n (l.drop (max 1 (wn l (lnP l / 2)))) (by rw [List.length_drop]; omega)
      rw [List.flatten_cons, this, List.take_append_drop]

theorem partF_some : ∀ (n : Nat) (l : List Rw), l.length ≤ n → 0 < l.length → (∀ x ∈ l, lnP [x] ≤ 300) → ∀ p ∈ partF l, 0 < p.length
  | 0, l, h, h0, _ => by omega
  | n + 1, l, h, h0, h2 => by
    by_cases hl : lnP l ≤ 300
    · rw [partF_fit hl]; intro p hp; simp at hp; subst hp; exact h0
    · rw [partF_more hl]
      have hlt := part_lt hl h2
      intro p hp
      rcases List.mem_cons.1 hp with rfl | hp
      · rw [List.length_take]; omega
      · exact partF_some n _ (by rw [List.length_drop]; omega) (by rw [List.length_drop]; omega) (fun x hx => h2 x (List.mem_of_mem_drop hx)) p hp

theorem partF_len (l : List Rw) (h0 : 0 < l.length) (h2 : ∀ x ∈ l, lnP [x] ≤ 300) : (partF l).length ≤ l.length := by
  have h1 : ∀ (o : List (List Rw)), (∀ p ∈ o, 0 < p.length) → o.length ≤ o.flatten.length := by
    intro o
    induction o with
    | nil => intro _; simp
    | cons p o ih =>
      intro hp
      have := ih (fun q hq => hp q (by simp [hq]))
      have := hp p (by simp)
      simp at *
      omega
  have := h1 (partF l) (partF_some l.length l (Nat.le_refl _) h0 h2)
  rw [partF_flat l.length l (Nat.le_refl _)] at this
  exact this

theorem partF_mem {l p : List Rw} (h : p ∈ partF l) : (∀ x ∈ p, x ∈ l) ∧ p.length ≤ l.length := by
  have hf := partF_flat l.length l (Nat.le_refl _)
  refine ⟨fun x hx => ?_, ?_⟩
  · rw [← hf]; exact List.mem_flatten.2 ⟨p, h, hx⟩
  · obtain ⟨s, t, he⟩ := List.append_of_mem h
    rw [← hf, he]
    simp
    omega

/-- The page that a row is put into. -/
def atP (gs : List (List Rw)) (key : ByteArray) : Nat := min (plF gs key) (gs.length - 1)

/-- The pages with a row. -/
def putG (gs : List (List Rw)) (x : Rw) : List (List Rw) := gs.take (atP gs x.key) ++ (partF (insR ((gs[atP gs x.key]?).getD []) x) ++ gs.drop (atP gs x.key + 1))

/-- A row that is in a page fits into one alone. -/
theorem alone_fit {g : List Rw} {x : Rw} (hx : x ∈ g) (hl : lnP g ≤ 300) : lnP [x] ≤ 300 := by
  obtain ⟨s, t, rfl⟩ := List.append_of_mem hx
  have h1 := lnP_alone s x
  have h2 : lnP (s ++ [x]) ≤ lnP (s ++ x :: t) := by
    rw [show s ++ x :: t = (s ++ [x]) ++ t by simp]
    have : ∀ (t q : List Rw), lnP q ≤ lnP (q ++ t) := by
      intro t
      induction t with
      | nil => intro q; simp
      | cons y t ih =>
        intro q
        have h3 := lnP_snoc q y
        have h4 := ih (q ++ [y])
        rw [show q ++ y :: t = (q ++ [y]) ++ t by simp]
        omega
    exact this t _
  omega

theorem plF_is {gs : List (List Rw)} (key : ByteArray) : plF gs key ≤ gs.length ∧ (∀ (i : Nat) (a : List Rw), i < plF gs key → gs[i]? = some a → ltK (endK a) key = true) ∧ (∀ a, gs[plF gs key]? = some a → ltK (endK a) key = false) := by
  unfold plF
  induction gs with
  | nil => simp
  | cons g gs ih =>
    cases h : ltK (endK g) key
    · simp [List.takeWhile, h]
    · simp only [List.takeWhile, h, List.length_cons]
      refine ⟨by omega, fun i a hi ha => ?_, fun a ha => ih.2.2 a (by simpa using ha)⟩
      cases i with
      | zero => simp at ha; subst ha; exact h
      | succ i => exact ih.2.1 i a (by omega) (by simpa using ha)

theorem putG_book {gs : List (List Rw)} {x : Rw} (hb : Book gs) (hl : ∀ g ∈ gs, lnP g ≤ 300) (h0 : gs.length ≠ 0) (hx : sz1 x = true) (hx1 : lnP [x] ≤ 300) : Book (putG gs x) := by
  obtain ⟨p1, p2, p3⟩ := plF_is (gs := gs) x.key
  obtain ⟨a, ha⟩ : ∃ a, atP gs x.key = a := ⟨_, rfl⟩
  have hal : a < gs.length := by rw [← ha]; unfold atP; omega
  obtain ⟨l, hl'⟩ : ∃ l, gs[a]? = some l := ⟨_, List.getElem?_eq_getElem hal⟩
  have hlm := List.mem_of_getElem? hl'
  obtain ⟨lg, l0⟩ := hb.good l hlm
  have lr := goodR_rise lg
  have l59 := fit59 lr (hl l hlm)
  have hil := insR_len (x := x) lr
  have hal1 : ∀ y ∈ insR l x, lnP [y] ≤ 300 := fun y hy => by
    rcases insR_mem hy with rfl | hy
    · exact hx1
    · exact alone_fit hy (hl l hlm)
  have hi0 : 0 < (insR l x).length := by unfold insR; rw [List.length_append, List.length_append, List.length_singleton]; omega
  have hsz : ∀ y ∈ insR l x, sz1 y = true := fun y hy => by
    rcases insR_mem hy with rfl | hy
    · exact hx
    · exact (goodR_iff.1 lg).2.1 y hy
  have hsplit : gs = gs.take a ++ (l :: gs.drop (a + 1)) := by
    conv => lhs; rw [← List.take_append_drop a gs]
    congr 1
    obtain ⟨h1, rfl⟩ := List.getElem?_eq_some_iff.1 hl'
    exact List.drop_eq_getElem_cons h1
  have hpw := hb.pw
  rw [hsplit] at hpw
  unfold PW at hpw
  rw [List.flatten_append, List.flatten_cons, List.pairwise_append, List.pairwise_append] at hpw
  obtain ⟨q1, ⟨q2, q3, q4⟩, q5⟩ := hpw
  unfold putG
  rw [ha, hl']
  show Book (gs.take a ++ (partF (insR l x) ++ gs.drop (a + 1)))
  refine book_of (fun g hg => ?_) ?_
  · have old : ∀ g ∈ gs, g.length ≤ 60 ∧ 0 < g.length ∧ ∀ x ∈ g, sz1 x = true := fun g hg => by
      obtain ⟨b1, b2⟩ := hb.good g hg
      exact ⟨(goodR_iff.1 b1).1, b2, (goodR_iff.1 b1).2.1⟩
    rcases List.mem_append.1 hg with hg | hg
    · exact old g (List.mem_of_mem_take hg)
    · rcases List.mem_append.1 hg with hg | hg
      · obtain ⟨m1, m2⟩ := partF_mem hg
        exact ⟨by omega, partF_some _ _ (Nat.le_refl _) hi0 hal1 g hg, fun y hy => hsz y (m1 y hy)⟩
      · exact old g (List.mem_of_mem_drop hg)
  · unfold PW
    rw [List.flatten_append, List.flatten_append, partF_flat _ _ (Nat.le_refl _), List.pairwise_append, List.pairwise_append]
    have hlow : ∀ y ∈ (gs.take a).flatten, ltK y.key x.key = true := fun y hy => by
      obtain ⟨g, hg, hy⟩ := List.mem_flatten.1 hy
      obtain ⟨i, hi⟩ := List.getElem?_of_mem hg
      have hil2 := (List.getElem?_eq_some_iff.1 hi).1
      rw [List.length_take] at hil2
      rw [List.getElem?_take_of_lt (by omega)] at hi
      have hap : a ≤ plF gs x.key := by rw [← ha]; unfold atP; omega
      have h2 := p2 i g (by omega) hi
      rcases mem_end (goodR_rise (hb.good g (List.mem_of_getElem? hi)).1) hy with e | e
      · rw [e]; exact h2
      · exact ltK_trans e h2
    have hhigh : ∀ y ∈ (gs.drop (a + 1)).flatten, ltK x.key y.key = true := fun y hy => by
      by_cases hlast : a = plF gs x.key
      · have h3 := p3 l (by rw [← hlast]; exact hl')
        have h4 := q4 (rwAt l (l.length - 1)) (List.mem_of_getElem? (rwAt_lt (by omega))) y hy
        have h4' : ltK (endK l) y.key = true := h4
        by_cases e : endK l = x.key
        · rw [← e]; exact h4'
        · exact ltK_trans (ltK_tot h3 e) h4'
      · exfalso
        have : a = gs.length - 1 := by rw [← ha] at hlast ⊢; unfold atP at hlast ⊢; omega
        rw [List.drop_eq_nil_of_le (by omega)] at hy
        simp at hy
    refine ⟨q1, ⟨insR_pw q2, q3, fun y hy z hz => ?_⟩, fun y hy z hz => ?_⟩
    · rcases insR_mem hy with rfl | hy
      · exact hhigh z hz
      · exact q4 y hy z hz
    · rcases List.mem_append.1 hz with hz | hz
      · rcases insR_mem hz with rfl | hz
        · exact hlow y hy
        · exact q5 y hy z (List.mem_append_left _ hz)
      · exact q5 y hy z (List.mem_append_right _ hz)

/-- The pages of a book, where they may be. -/
def ansG (b : List (List Rw)) : Option (List ByteArray) := if b.length ≤ 40 ∧ (b.all fun g => decide (lnP g ≤ 300)) = true then some (b.map pgB) else none

theorem ansG_spec {b : List (List Rw)} (hb : Book b) : (bookF (b.map pgB)).isSome = (ansG b).isSome := by
  rw [bookF_back hb]
  unfold ansG
  by_cases h : b.length ≤ 40 ∧ ∀ g ∈ b, lnP g ≤ 300
  · rw [if_pos h, if_pos ⟨h.1, by rw [List.all_eq_true]; intro g hg; exact decide_eq_true (h.2 g hg)⟩]
    rfl
  · have hn : ¬ (b.length ≤ 40 ∧ (b.all fun g => decide (lnP g ≤ 300)) = true) := by
      rintro ⟨h1, h2⟩
      rw [List.all_eq_true] at h2
      exact h ⟨h1, fun g hg => by simpa using h2 g hg⟩
    rw [if_neg h, if_neg hn]
    rfl

theorem ansG_some {b : List (List Rw)} {ss : List ByteArray} (h : ansG b = some ss) : ss = b.map pgB ∧ b.length ≤ 40 := by
  unfold ansG at h
  split at h
  · rename_i hc
    exact ⟨(Option.some.inj h).symm, hc.1⟩
  · cases h
end Go.Proofs.YtbgomhgohphglaaDoor

namespace Go.Proofs.YtbgomhgohphglaaDoor

theorem okPB_book {g : List Rw} (h1 : goodR g = true) (h0 : 0 < g.length) : okPB g = decide (lnP g ≤ 300) := by
  have h2 : (g.length == 0) = false := by simp; intro e; rw [e] at h0; simp at h0
  unfold okPB lnP
  rw [h1, h2]
  simp

theorem pbT_pg {g : List Rw} (h : okPB g = true) : pbT g = pgB g := by unfold pbT pgB; rw [if_pos h]

/-- The bytes of a book are its pages. -/
theorem bytF_book {b : List (List Rw)} (hb : Book b) : bytF b = ansG b := by
  have hiff : (b.all okPB = true) ↔ ((b.all fun g => decide (lnP g ≤ 300)) = true) := by
    rw [List.all_eq_true, List.all_eq_true]
    constructor
    · intro h g hg
      have := h g hg
      rw [okPB_book (hb.good g hg).1 (hb.good g hg).2] at this
      exact this
    · intro h g hg
      rw [okPB_book (hb.good g hg).1 (hb.good g hg).2]
      exact h g hg
  unfold bytF ansG
  by_cases h : b.length ≤ 40 ∧ (b.all okPB) = true
  · rw [if_pos h, if_pos ⟨h.1, hiff.1 h.2⟩]
    congr 1
    exact List.map_congr_left fun g hg => pbT_pg (List.all_eq_true.1 h.2 g hg)
  · rw [if_neg h, if_neg (fun c => h ⟨c.1, hiff.2 c.2⟩)]

theorem okPB_one (x : Rw) : okPB [x] = (goodR [x] && decide (lnP [x] ≤ 300)) := by unfold okPB lnP; simp
theorem okPB_sz {x : Rw} (h : okPB [x] = true) : goodR [x] = true ∧ sz1 x = true ∧ lnP [x] ≤ 300 := by
  rw [okPB_one, Bool.and_eq_true, decide_eq_true_eq] at h
  exact ⟨h.1, (goodR_iff.1 h.1).2.1 x (by simp), h.2⟩

/-- What PutInPages answers. -/
def putA (ss : List ByteArray) (x : Rw) : Option (List ByteArray) :=
  match bookF ss with
  | none => none
  | some gs => if okPB [x] = true then (if gs.length = 0 then some [pgB [x]] else if (putG gs x).flatten.length ≤ 60 then ansG (putG gs x) else none) else none

theorem putA_bad {ss : List ByteArray} {x : Rw} (h : bookF ss = none) : putA ss x = none := by unfold putA; rw [h]
theorem putA_no {ss : List ByteArray} {x : Rw} (h : okPB [x] = false) : putA ss x = none := by
  unfold putA
  cases bookF ss with
  | none => rfl
  | some gs => simp [h]
theorem putA_one {ss : List ByteArray} {x : Rw} {gs : List (List Rw)} (h : bookF ss = some gs) (hx : okPB [x] = true) (h0 : gs.length = 0) : putA ss x = some [pgB [x]] := by
  unfold putA
  rw [h]
  simp only []
  rw [if_pos hx, if_pos h0]
theorem putA_full {ss : List ByteArray} {x : Rw} {gs : List (List Rw)} (h : bookF ss = some gs) (hx : okPB [x] = true) (h0 : gs.length ≠ 0) (hf : ¬ (putG gs x).flatten.length ≤ 60) : putA ss x = none := by
  unfold putA
  rw [h]
  simp only []
  rw [if_pos hx, if_neg h0, if_neg hf]
theorem putA_more {ss : List ByteArray} {x : Rw} {gs : List (List Rw)} (h : bookF ss = some gs) (hx : okPB [x] = true) (h0 : gs.length ≠ 0) (hf : (putG gs x).flatten.length ≤ 60) : putA ss x = ansG (putG gs x) := by
  unfold putA
  rw [h]
  simp only []
  rw [if_pos hx, if_neg h0, if_pos hf]

theorem ansG_len (b : List (List Rw)) : ((ansG b).getD []).length ≤ 40 := by
  cases h : ansG b with
  | none => simp
  | some ss =>
    obtain ⟨rfl, h2⟩ := ansG_some h
    simpa using h2

theorem putA_len (ss : List ByteArray) (x : Rw) : ((putA ss x).getD []).length ≤ 40 := by
  unfold putA
  split
  · simp
  · split
    · split
      · simp
      · split
        · exact ansG_len _
        · simp
    · simp

/-- The page that a row is put into, and the parts of it. -/
theorem put_page {gs : List (List Rw)} {x : Rw} (hb : Book gs) (hl : ∀ g ∈ gs, lnP g ≤ 300) (h0 : gs.length ≠ 0) (hx : okPB [x] = true) :
    ∃ l, atP gs x.key < gs.length ∧ gs[atP gs x.key]? = some l ∧ Rise l ∧ 0 < l.length ∧ l.length ≤ 59 ∧ RwB l ∧ RwB (insR l x) ∧ 0 < (insR l x).length ∧ (insR l x).length ≤ 60 ∧ (∀ y ∈ insR l x, lnP [y] ≤ 300) ∧ 0 < (partF (insR l x)).length ∧ (partF (insR l x)).length ≤ 60 ∧ putG gs x = gs.take (atP gs x.key) ++ (partF (insR l x) ++ gs.drop (atP gs x.key + 1)) := by
  obtain ⟨_, hx1, hx2⟩ := okPB_sz hx
  have hal : atP gs x.key < gs.length := by unfold atP; omega
  obtain ⟨l, hl'⟩ : ∃ l, gs[atP gs x.key]? = some l := ⟨_, List.getElem?_eq_getElem hal⟩
  have hlm := List.mem_of_getElem? hl'
  obtain ⟨lg, l0⟩ := hb.good l hlm
  have lr := goodR_rise lg
  have l59 := fit59 lr (hl l hlm)
  have hil := insR_len (x := x) lr
  have hal1 : ∀ y ∈ insR l x, lnP [y] ≤ 300 := fun y hy => by
    rcases insR_mem hy with rfl | hy
    · exact hx2
    · exact alone_fit hy (hl l hlm)
  have hi0 : 0 < (insR l x).length := by unfold insR; rw [List.length_append, List.length_append, List.length_singleton]; omega
  have hRB := goodR_RwB lg
  have hRI : RwB (insR l x) := ⟨by omega, fun y hy => by
    rcases insR_mem hy with rfl | hy
    · unfold sz1 at hx1
      simp only [Bool.and_eq_true, decide_eq_true_eq] at hx1
      omega
    · exact hRB.2 y hy⟩
  have hp0 : 0 < (partF (insR l x)).length := by
    by_cases hf : lnP (insR l x) ≤ 300
    · rw [partF_fit hf]; simp
    · rw [partF_more hf]; simp
  have hpl := partF_len (insR l x) hi0 hal1
  refine ⟨l, hal, hl', lr, l0, l59, hRB, hRI, hi0, by omega, hal1, hp0, by omega, ?_⟩
  unfold putG
  rw [hl']
  rfl

/-- The rows of a book that a row was put into. -/
theorem putG_sz {gs : List (List Rw)} {x : Rw} (hb : Book (putG gs x)) : ∀ g ∈ putG gs x, RwB g ∧ g.length ≤ 60 := fun g hg => ⟨goodR_RwB (hb.good g hg).1, goodR_len (hb.good g hg).1⟩
end Go.Proofs.YtbgomhgohphglaaDoor

namespace Go.Proofs.YtbgomhgohphglaaDoor

/-- Rows without the one with the key. -/
def dropR (l : List Rw) (key : ByteArray) : List Rw := l.take (placeF l key) ++ l.drop (placeF l key + 1)

theorem ltK_ne {a b : ByteArray} (h : ltK a b = true) : a ≠ b := fun e => by
  rw [e, ltK_irr] at h
  cases h

theorem there_at {l : List Rw} {key : ByteArray} (ht : thereF l key = true) : (rwAt l (placeF l key)).key = key := by
  unfold thereF at ht
  rw [Bool.and_eq_true, decide_eq_true_eq, decide_eq_true_eq, cmpK_zero] at ht
  exact ht.2

theorem filter_there {l : List Rw} {key : ByteArray} (hr : Rise l) (ht : thereF l key = true) : l.filter (fun y => decide (y.key ≠ key)) = dropR l key := by
  have hp := (rowIn_there hr ht).2
  have h1 := take_low (key := key) hr
  have h2 := drop_high (key := key) hr
  rw [ht] at h2
  simp only [if_true] at h2
  have h3 := there_at ht
  have hsplit : l = l.take (placeF l key) ++ (rwAt l (placeF l key) :: l.drop (placeF l key + 1)) := by
    conv => lhs; rw [← List.take_append_drop (placeF l key) l]
    congr 1
    rw [List.drop_eq_getElem_cons hp]
    congr 1
    unfold rwAt
    rw [List.getElem?_eq_getElem hp]
    rfl
  unfold dropR
  generalize placeF l key = p at *
  rw [hsplit] 
  rw [List.filter_append, List.filter_cons]
  rw [if_neg (by simp only [h3]; simp)]
  have e1 : (l.take p).filter (fun y => decide (y.key ≠ key)) = l.take p := List.filter_eq_self.2 fun y hy => decide_eq_true (ltK_ne (h1 y hy))
  have e2 : (l.drop (p + 1)).filter (fun y => decide (y.key ≠ key)) = l.drop (p + 1) := List.filter_eq_self.2 fun y hy => decide_eq_true (ltK_ne (h2 y hy)).symm
  have e3 : (l.take p ++ rwAt l p :: l.drop (p + 1)).take p = l.take p := by rw [← hsplit]
  have e4 : (l.take p ++ rwAt l p :: l.drop (p + 1)).drop (p + 1) = l.drop (p + 1) := by rw [← hsplit]
  rw [e1, e2, e3, e4]

theorem filter_not {l : List Rw} {key : ByteArray} (hr : Rise l) (ht : thereF l key = false) : l.filter (fun y => decide (y.key ≠ key)) = l :=
  List.filter_eq_self.2 fun y hy => decide_eq_true (rowIn_not hr ht y hy)

theorem dropR_len {l : List Rw} {key : ByteArray} (hr : Rise l) (ht : thereF l key = true) : (dropR l key).length = l.length - 1 := by
  have hp := (rowIn_there hr ht).2
  unfold dropR
  rw [List.length_append, List.length_take, List.length_drop]
  omega

theorem dropR_sub (l : List Rw) (key : ByteArray) : (dropR l key).Sublist l := by
  unfold dropR
  conv => rhs; rw [← List.take_append_drop (placeF l key) l]
  refine List.Sublist.append (List.Sublist.refl _) ?_
  rw [show l.drop (placeF l key + 1) = (l.drop (placeF l key)).drop 1 by rw [List.drop_drop]]
  exact List.drop_sublist _ _

def gAt (gs : List (List Rw)) (i : Nat) : List Rw := (gs[i]?).getD []

/-- The pages behind it: k is the page, l its rows by now. -/
def dropG (gs : List (List Rw)) (k : Nat) (l : List Rw) : List (List Rw) :=
  if l.length = 0 then gs.take k ++ gs.drop (k + 1)
  else if 0 < k ∧ lnP (gAt gs (k - 1) ++ l) ≤ 300 then gs.take (k - 1) ++ ([gAt gs (k - 1) ++ l] ++ gs.drop (k + 1))
  else if k + 1 < gs.length ∧ lnP (l ++ gAt gs (k + 1)) ≤ 300 then gs.take k ++ ([l ++ gAt gs (k + 1)] ++ gs.drop (k + 2))
  else gs.take k ++ ([l] ++ gs.drop (k + 1))

theorem dropG_none {gs : List (List Rw)} {k : Nat} {l : List Rw} (h : l.length = 0) : dropG gs k l = gs.take k ++ gs.drop (k + 1) := by unfold dropG; rw [if_pos h]
theorem dropG_ahead {gs : List (List Rw)} {k : Nat} {l a : List Rw} (h : l.length ≠ 0) (hk : 0 < k) (ha : gs[k - 1]? = some a) (hf : lnP (a ++ l) ≤ 300) : dropG gs k l = gs.take (k - 1) ++ ([a ++ l] ++ gs.drop (k + 1)) := by
  have e : gAt gs (k - 1) = a := by unfold gAt; rw [ha]; rfl
  unfold dropG
  rw [if_neg h, e, if_pos ⟨hk, hf⟩]
theorem dropG_next {gs : List (List Rw)} {k : Nat} {l b : List Rw} (h : l.length ≠ 0) (hn : ∀ a, 0 < k → gs[k - 1]? = some a → ¬ lnP (a ++ l) ≤ 300) (hb : gs[k + 1]? = some b) (hf : lnP (l ++ b) ≤ 300) : dropG gs k l = gs.take k ++ ([l ++ b] ++ gs.drop (k + 2)) := by
  have e : gAt gs (k + 1) = b := by unfold gAt; rw [hb]; rfl
  have hkk := (List.getElem?_eq_some_iff.1 hb).1
  unfold dropG
  rw [if_neg h, if_neg, e, if_pos ⟨hkk, hf⟩]
  rintro ⟨h1, h2⟩
  have : gs[k - 1]? = some (gAt gs (k - 1)) := by unfold gAt; rw [List.getElem?_eq_getElem (by omega)]; rfl
  exact hn _ h1 this h2
theorem dropG_same {gs : List (List Rw)} {k : Nat} {l : List Rw} (h : l.length ≠ 0) (hn : ∀ a, 0 < k → gs[k - 1]? = some a → ¬ lnP (a ++ l) ≤ 300) (hkl : k < gs.length) (hm : ∀ b, gs[k + 1]? = some b → ¬ lnP (l ++ b) ≤ 300) : dropG gs k l = gs.take k ++ ([l] ++ gs.drop (k + 1)) := by
  unfold dropG
  rw [if_neg h, if_neg, if_neg]
  · rintro ⟨h1, h2⟩
    have : gs[k + 1]? = some (gAt gs (k + 1)) := by unfold gAt; rw [List.getElem?_eq_getElem h1]; rfl
    exact hm _ this h2
  · rintro ⟨h1, h2⟩
    have : gs[k - 1]? = some (gAt gs (k - 1)) := by unfold gAt; rw [List.getElem?_eq_getElem (by omega)]; rfl
    exact hn _ h1 this h2

theorem take_pred {gs : List (List Rw)} {k : Nat} {a : List Rw} (hk : 0 < k) (ha : gs[k - 1]? = some a) : gs.take k = gs.take (k - 1) ++ [a] := by
  obtain ⟨j, rfl⟩ : ∃ j, k = j + 1 := ⟨k - 1, by omega⟩
  simp only [Nat.add_sub_cancel] at ha ⊢
  rw [List.take_add_one, ha]
  rfl

theorem drop_succ {gs : List (List Rw)} {k : Nat} {a : List Rw} (ha : gs[k]? = some a) : gs.drop k = a :: gs.drop (k + 1) := by
  obtain ⟨h1, rfl⟩ := List.getElem?_eq_some_iff.1 ha
  exact List.drop_eq_getElem_cons h1

/-- How the pages may have been put together. -/
theorem dropG_cases (gs : List (List Rw)) (k : Nat) (l : List Rw) (hk : k < gs.length) :
    (dropG gs k l).flatten = (gs.take k).flatten ++ (l ++ (gs.drop (k + 1)).flatten) ∧ (∀ g ∈ dropG gs k l, g ∈ gs ∨ (g = l ∧ 0 < l.length) ∨ (lnP g ≤ 300 ∧ 0 < g.length ∧ ∀ x ∈ g, x ∈ l ∨ ∃ q ∈ gs, x ∈ q)) ∧ (dropG gs k l).length ≤ gs.length := by
  by_cases h : l.length = 0
  · rw [dropG_none h]
    obtain rfl : l = [] := List.eq_nil_of_length_eq_zero h
    refine ⟨by simp, fun g hg => ?_, by simp; omega⟩
    rcases List.mem_append.1 hg with hg | hg
    · exact .inl (List.mem_of_mem_take hg)
    · exact .inl (List.mem_of_mem_drop hg)
  · by_cases hA : ∃ a, 0 < k ∧ gs[k - 1]? = some a ∧ lnP (a ++ l) ≤ 300
    · obtain ⟨a, h0, ha, hf⟩ := hA
      rw [dropG_ahead h h0 ha hf]
      refine ⟨by rw [take_pred h0 ha]; simp, fun g hg => ?_, by simp; omega⟩
      rcases List.mem_append.1 hg with hg | hg
      · exact .inl (List.mem_of_mem_take hg)
      · rcases List.mem_append.1 hg with hg | hg
        · simp at hg
          subst hg
          refine .inr (.inr ⟨hf, by simp; omega, fun x hx => ?_⟩)
          rcases List.mem_append.1 hx with hx | hx
          · exact .inr ⟨a, List.mem_of_getElem? ha, hx⟩
          · exact .inl hx
        · exact .inl (List.mem_of_mem_drop hg)
    · have hn : ∀ a, 0 < k → gs[k - 1]? = some a → ¬ lnP (a ++ l) ≤ 300 := fun a h1 h2 h3 => hA ⟨a, h1, h2, h3⟩
      by_cases hB : ∃ b, gs[k + 1]? = some b ∧ lnP (l ++ b) ≤ 300
      · obtain ⟨b, hb, hf⟩ := hB
        rw [dropG_next h hn hb hf]
        have hkk := (List.getElem?_eq_some_iff.1 hb).1
        refine ⟨by rw [drop_succ hb]; simp, fun g hg => ?_, by simp; omega⟩
        rcases List.mem_append.1 hg with hg | hg
        · exact .inl (List.mem_of_mem_take hg)
        · rcases List.mem_append.1 hg with hg | hg
          · simp at hg
            subst hg
            refine .inr (.inr ⟨hf, by simp; omega, fun x hx => ?_⟩)
            rcases List.mem_append.1 hx with hx | hx
            · exact .inl hx
            · exact .inr ⟨b, List.mem_of_getElem? hb, hx⟩
          · exact .inl (List.mem_of_mem_drop hg)
      · rw [dropG_same h hn hk (fun b h1 h2 => hB ⟨b, h1, h2⟩)]
        refine ⟨by simp, fun g hg => ?_, by simp; omega⟩
        rcases List.mem_append.1 hg with hg | hg
        · exact .inl (List.mem_of_mem_take hg)
        · rcases List.mem_append.1 hg with hg | hg
          · simp at hg
            subst hg
            exact .inr (.inl ⟨rfl, by omega⟩)
          · exact .inl (List.mem_of_mem_drop hg)

theorem dropG_book {gs : List (List Rw)} {k : Nat} {l l' : List Rw} (hb : Book gs) (hl : gs[k]? = some l) (hs : l'.Sublist l) : Book (dropG gs k l') := by
  have hk := (List.getElem?_eq_some_iff.1 hl).1
  obtain ⟨c1, c2, _⟩ := dropG_cases gs k l' hk
  have lm := List.mem_of_getElem? hl
  have hpw : PW (dropG gs k l').flatten := by
    rw [c1]
    have h2 : gs.flatten = (gs.take k).flatten ++ (l ++ (gs.drop (k + 1)).flatten) := by
      conv => lhs; rw [← List.take_append_drop k gs, drop_succ hl]
      simp
    have h3 := hb.pw
    rw [h2] at h3
    exact List.Pairwise.sublist (List.Sublist.append (List.Sublist.refl _) (List.Sublist.append hs (List.Sublist.refl _))) h3
  have hg := (List.pairwise_flatten.1 hpw).1
  refine book_of (fun g hgm => ?_) hpw
  rcases c2 g hgm with h | ⟨rfl, h0⟩ | ⟨h1, h0, h2⟩
  · obtain ⟨b1, b2⟩ := hb.good g h
    exact ⟨(goodR_iff.1 b1).1, b2, (goodR_iff.1 b1).2.1⟩
  · obtain ⟨b1, b2⟩ := hb.good l lm
    have := hs.length_le
    exact ⟨by have := (goodR_iff.1 b1).1; omega, h0, fun x hx => (goodR_iff.1 b1).2.1 x (hs.subset hx)⟩
  · have h59 := fit59 (pw_rise (hg g hgm)) h1
    refine ⟨by omega, h0, fun x hx => ?_⟩
    rcases h2 x hx with hx | ⟨q, hq, hx⟩
    · exact (goodR_iff.1 (hb.good l lm).1).2.1 x (hs.subset hx)
    · exact (goodR_iff.1 (hb.good q hq).1).2.1 x hx

/-- What DropFromPages answers. -/
def dropA (ss : List ByteArray) (key : ByteArray) : Option (List ByteArray) :=
  match bookF ss with
  | none => none
  | some gs => if thereF (gAt gs (plF gs key)) key = true ∧ plF gs key < gs.length then ansG (dropG gs (plF gs key) (dropR (gAt gs (plF gs key)) key)) else none

theorem dropA_bad {ss : List ByteArray} {key : ByteArray} (h : bookF ss = none) : dropA ss key = none := by unfold dropA; rw [h]
theorem dropA_end {ss : List ByteArray} {key : ByteArray} {gs : List (List Rw)} (h : bookF ss = some gs) (hk : plF gs key = gs.length) : dropA ss key = none := by
  unfold dropA
  rw [h]
  simp only []
  rw [if_neg]
  rintro ⟨_, h2⟩
  omega
theorem dropA_no {ss : List ByteArray} {key : ByteArray} {gs : List (List Rw)} {l : List Rw} (h : bookF ss = some gs) (hl : gs[plF gs key]? = some l) (ht : thereF l key = false) : dropA ss key = none := by
  unfold dropA
  rw [h]
  simp only []
  rw [if_neg]
  rintro ⟨h2, _⟩
  unfold gAt at h2
  rw [hl] at h2
  simp [ht] at h2
theorem dropA_yes {ss : List ByteArray} {key : ByteArray} {gs : List (List Rw)} {l : List Rw} (h : bookF ss = some gs) (hl : gs[plF gs key]? = some l) (ht : thereF l key = true) : dropA ss key = ansG (dropG gs (plF gs key) (dropR l key)) := by
  have e : gAt gs (plF gs key) = l := by unfold gAt; rw [hl]; rfl
  unfold dropA
  rw [h]
  simp only []
  rw [e, if_pos ⟨ht, (List.getElem?_eq_some_iff.1 hl).1⟩]

theorem dropA_len (ss : List ByteArray) (key : ByteArray) : ((dropA ss key).getD []).length ≤ 40 := by
  unfold dropA
  split
  · simp
  · split
    · exact ansG_len _
    · simp
end Go.Proofs.YtbgomhgohphglaaDoor

namespace Go.Proofs.YtbgomhgohphglaaDoor

/-- The search by halves looks at few pages. -/
theorem pfF_looks (gs : List (List Rw)) (key : ByteArray) : ∀ (n lo hi k : Nat), hi - lo < 2 ^ n → (pfF gs key lo hi k).2 ≤ k + n
  | 0, lo, hi, k, h => by
    rw [pfF_end (by simp at h; omega)]
    exact Nat.le_refl _
  | n + 1, lo, hi, k, h => by
    by_cases hlt : lo < hi
    · have h2 : hi - lo < 2 * 2 ^ n := by rw [Nat.pow_succ] at h; omega
      rw [pfF, if_pos hlt]
      split
      · have := pfF_looks gs key n ((lo + hi) / 2 + 1) hi (k + 1) (by omega)
        omega
      · have := pfF_looks gs key n lo ((lo + hi) / 2) (k + 1) (by omega)
        omega
    · rw [pfF_end hlt]
      show k ≤ _
      omega

theorem pageF_looks {gs : List (List Rw)} (key : ByteArray) (h : gs.length ≤ 40) : (pageF gs key).2 ≤ 6 := by
  have := pfF_looks gs key 6 0 gs.length 0 (by have : (2 : Nat) ^ 6 = 64 := by decide
                                               omega)
  unfold pageF
  omega

/-- The page of a row that is in a book. -/
theorem plF_row {gs : List (List Rw)} (hb : Book gs) {i : Nat} {g : List Rw} {x : Rw} (hg : gs[i]? = some g) (hx : x ∈ g) : plF gs x.key = i := by
  have hpw := hb.pw
  unfold PW at hpw
  rw [List.pairwise_flatten] at hpw
  have hil := (List.getElem?_eq_some_iff.1 hg).1
  unfold plF
  refine takeWhile_at _ gs i (fun j a hj ha => ?_) (fun a ha => ?_) (by omega)
  · have hjl := (List.getElem?_eq_some_iff.1 ha).1
    have h2 := List.pairwise_iff_getElem.1 hpw.2 j i hjl hil hj
    have ea : gs[j] = a := (List.getElem?_eq_some_iff.1 ha).2
    have eg : gs[i] = g := (List.getElem?_eq_some_iff.1 hg).2
    rw [ea, eg] at h2
    have h0 := (hb.good a (List.mem_of_getElem? ha)).2
    exact h2 (rwAt a (a.length - 1)) (List.mem_of_getElem? (rwAt_lt (by omega))) x hx
  · rw [hg] at ha
    obtain rfl := Option.some.inj ha
    rcases mem_end (goodR_rise (hb.good g (List.mem_of_getElem? hg)).1) hx with e | e
    · rw [← e]; exact ltK_irr _
    · cases hlt : ltK (endK g) x.key with
      | false => rfl
      | true =>
        have := ltK_trans e hlt
        rw [ltK_irr] at this
        cases this

/-- A row of rising rows is the one with its key. -/
theorem rowIn_row {g : List Rw} (hr : Rise g) {x : Rw} (hx : x ∈ g) : rowIn g x.key = x := by
  obtain ⟨i, hi⟩ := List.getElem?_of_mem hx
  have hil := (List.getElem?_eq_some_iff.1 hi).1
  refine rowIn_first hi rfl fun y hy => ?_
  obtain ⟨j, hj⟩ := List.getElem?_of_mem hy
  have hjl := (List.getElem?_eq_some_iff.1 hj).1
  rw [List.length_take] at hjl
  rw [List.getElem?_take_of_lt (by omega)] at hj
  have := hr j i (by omega) hil
  rw [rwAt_of hj, rwAt_of hi] at this
  exact ltK_ne this

/-- A row of a book is found, by at most seven looks. -/
theorem findA_row {ss : List ByteArray} {gs : List (List Rw)} (h : bookF ss = some gs) {x : Rw} (hx : x ∈ gs.flatten) : (findA ss x.key).1 = x ∧ (findA ss x.key).2 ≤ 7 := by
  obtain ⟨hb, _, h40⟩ := bookF_book h
  obtain ⟨g, hg, hxg⟩ := List.mem_flatten.1 hx
  obtain ⟨i, hi⟩ := List.getElem?_of_mem hg
  have hp : (pageF gs x.key).1 = i := by rw [pageF_pl hb]; exact plF_row hb hi hxg
  rw [findA_page h (by rw [hp]; exact hi)]
  have := pageF_looks (gs := gs) x.key h40
  exact ⟨rowIn_row (goodR_rise (hb.good g hg).1) hxg, by show _ + 1 ≤ _; omega⟩

/-- Pages of good rows are a book of them. -/
theorem cut_book {l : List Rw} {gs : List (List Rw)} (hg : goodR l = true) (hf : gs.flatten = l) (ho : ∀ p ∈ gs, okPB p = true) : Book gs := by
  refine book_of (fun g hgm => ?_) (by rw [hf]; exact rise_pw (goodR_rise hg))
  have := ho g hgm
  unfold okPB at this
  simp only [Bool.and_eq_true, decide_eq_true_eq] at this
  obtain ⟨⟨h1, h2⟩, _⟩ := this
  refine ⟨(goodR_iff.1 h2).1, ?_, (goodR_iff.1 h2).2.1⟩
  cases g with
  | nil => simp at h1
  | cons x g => simp

theorem okPB_fit {g : List Rw} (h : okPB g = true) : lnP g ≤ 300 ∧ 0 < g.length ∧ goodR g = true := by
  unfold okPB at h
  simp only [Bool.and_eq_true, decide_eq_true_eq] at h
  refine ⟨h.2, ?_, h.1.2⟩
  cases g with
  | nil => simp at h
  | cons x g => simp

/-- How many bytes two keys share, in three that rise. -/
theorem shL_three : ∀ (a b c : List UInt8), shL a b ≤ a.length ∧ shL a b ≤ b.length ∧ min (shL a b) (shL b c) ≤ shL a c
  | [], b, c => by simp [shL]
  | x :: a, [], c => by simp [shL]
  | x :: a, y :: b, [] => by
    refine ⟨?_, ?_, by simp [shL]⟩
    · have := shL_three a b []
      unfold shL
      split
      · simp; omega
      · simp
    · have := shL_three a b []
      unfold shL
      split
      · simp; omega
      · simp
  | x :: a, y :: b, z :: c => by
    have ih := shL_three a b c
    refine ⟨?_, ?_, ?_⟩
    · unfold shL
      split
      · simp; omega
      · simp
    · unfold shL
      split
      · simp; omega
      · simp
    · by_cases h1 : x = y
      · by_cases h2 : y = z
        · subst h1; subst h2
          simp only [shL, if_true]
          omega
        · simp only [shL, h2, if_false]
          omega
      · simp only [shL, h1, if_false]
        omega

theorem shB_three (a b c : ByteArray) : shB a b ≤ b.size ∧ shB b c ≤ b.size ∧ min (shB a b) (shB b c) ≤ shB a c := by
  have h1 := shL_three a.data.toList b.data.toList c.data.toList
  have h2 := shL_three b.data.toList c.data.toList c.data.toList
  have e : b.data.toList.length = b.size := by rw [Array.length_toList]; rfl
  unfold shB
  omega

theorem rowI_size (p : ByteArray) (x : Rw) : (rowI p x).length = 4 + (x.key.size - shB p x.key) + x.text.size + x.val.size := by
  unfold rowI
  simp [bI]
  omega

/-- Rows without one of them are no longer. -/
theorem rowsI_drop (p : ByteArray) (x : Rw) (t : List Rw) : (rowsI p t).length ≤ (rowsI p (x :: t)).length := by
  cases t with
  | nil => simp [rowsI]
  | cons y t =>
    simp only [rowsI, List.length_append]
    rw [rowI_size, rowI_size, rowI_size]
    have h1 := shB_three p x.key y.key
    have h2 := (shB_three x.key y.key y.key).1
    have h3 := (shB_three p y.key y.key).1
    omega

theorem rowsI_less : ∀ (s t : List Rw) (p : ByteArray) (x : Rw), (rowsI p (s ++ t)).length ≤ (rowsI p (s ++ x :: t)).length
  | [], t, p, x => rowsI_drop p x t
  | y :: s, t, p, x => by
    have := rowsI_less s t y.key x
    simp only [List.cons_append, rowsI, List.length_append]
    omega

theorem lnP_less (s t : List Rw) (x : Rw) : lnP (s ++ t) ≤ lnP (s ++ x :: t) := by
  rw [lnP_is, lnP_is]
  have := rowsI_less s t ⟨#[]⟩ x
  omega

/-- A page that has lost a row fits where it did. -/
theorem dropR_fit {l : List Rw} {key : ByteArray} (hr : Rise l) (ht : thereF l key = true) : lnP (dropR l key) ≤ lnP l := by
  have hp := (rowIn_there hr ht).2
  unfold dropR
  generalize placeF l key = i at *
  have e : l = l.take i ++ l[i] :: l.drop (i + 1) := by
    conv => lhs; rw [← List.take_append_drop i l, List.drop_eq_getElem_cons hp]
  conv => rhs; rw [e]
  exact lnP_less _ _ _
end Go.Proofs.YtbgomhgohphglaaDoor
