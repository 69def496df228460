/- Books of pages, without memory: what is read is written, and where a key belongs. -/
import Derived.Test.YticogafoopkflaaDoorPRT6
import Derived.Test.YticogafoopkflaaDoorPRow6
namespace Go.Proofs.YticogafoopkflaaDoor

theorem shL_less : ∀ (x y : List UInt8), Op.bytesLess x y = true → shL x y < y.length
  | _, [], h => by simp [Op.bytesLess] at h
  | [], b :: y, _ => by simp [shL]
  | a :: x, b :: y, h => by
    simp only [Op.bytesLess, Bool.or_eq_true, Bool.and_eq_true, decide_eq_true_eq, beq_iff_eq] at h
    unfold shL
    rcases h with h | ⟨rfl, h⟩
    · rw [if_neg (UInt8.ne_of_lt h)]
      simp
    · rw [if_pos rfl]
      have := shL_less x y h
      simp
      omega

theorem shB_less {p k : ByteArray} (h : ltK p k = true) : shB p k < k.size := by
  unfold ltK at h
  rw [ByteArray.toList_eq, ByteArray.toList_eq] at h
  have := shL_less _ _ h
  rw [Array.length_toList] at this
  exact this

/-- The keys rise behind p. -/
def ChainK : ByteArray → List Rw → Prop
  | _, [] => True
  | p, x :: l => ltK p x.key = true ∧ ChainK x.key l

theorem chain_len : ∀ (l : List Rw) (p : ByteArray), ChainK p l → 5 * l.length ≤ (rowsI p l).length
  | [], _, _ => Nat.zero_le _
  | x :: l, p, h => by
    have h1 := shB_less h.1
    have h2 := rowI_len p x
    have h3 := chain_len l x.key h.2
    show 5 * (l.length + 1) ≤ (rowI p x ++ rowsI x.key l).length
    rw [List.length_append]
    omega

theorem rise_chain : ∀ (l : List Rw) (x : Rw), Rise (x :: l) → ChainK x.key l
  | [], _, _ => trivial
  | y :: l, x, h => by
    refine ⟨h 0 1 (by omega) (by simp), rise_chain l y fun i j hij hj => ?_⟩
    have := h (i + 1) (j + 1) (by omega) (by simp at hj ⊢; omega)
    simpa [rwAt] using this

/-- Rows that fit into a page are at most 59. -/
theorem fit59 {g : List Rw} (hg : Rise g) (hl : lnP g ≤ 300) : g.length ≤ 59 := by
  cases g with
  | nil => simp
  | cons x l =>
    have h1 := chain_len l x.key (rise_chain l x hg)
    have h2 := rowI_len ⟨#[]⟩ x
    rw [shB_nil] at h2
    rw [lnP_is] at hl
    have h3 : (rowsI ⟨#[]⟩ (x :: l)).length = (rowI ⟨#[]⟩ x).length + (rowsI x.key l).length := by
      show (rowI ⟨#[]⟩ x ++ rowsI x.key l).length = _
      rw [List.length_append]
    simp
    omega

/-- Pages of good rows that rise from each to the next. -/
structure Book (gs : List (List Rw)) : Prop where
  good : ∀ g ∈ gs, goodR g = true ∧ 0 < g.length
  rise : ∀ (i : Nat) (a b : List Rw), gs[i]? = some a → gs[i + 1]? = some b → ltK (endK a) (begK b) = true

/-- A page that is read is no longer than it may be. -/
theorem readP_fit {s : ByteArray} (h : codeP s = 0) : lnP (readP s) ≤ 300 := by
  unfold codeP at h
  unfold readP
  cases h1 : lenOk s
  · rw [h1] at h; simp at h
  cases h2 : markOk s
  · rw [h1, h2] at h; simp at h
  rw [h1, h2] at h
  simp only [if_true, Bool.and_self] at h ⊢
  cases h3 : readL s with
  | none => rw [h3] at h; simp at h
  | some l =>
    unfold readL at h3
    split at h3
    · cases h3
    · rename_i l' _
      split at h3
      · rename_i hp
        obtain rfl := Option.some.inj h3
        unfold isPage at hp
        rw [Bool.and_eq_true, decide_eq_true_eq] at hp
        unfold lenOk at h1
        rw [Bool.and_eq_true, decide_eq_true_eq, decide_eq_true_eq] at h1
        show lnP l' ≤ 300
        have : (byT (pageI l')).size = lnP l' := byT_size _
        rw [hp.2] at this
        omega
      · cases h3

theorem bkF_book : ∀ (ss : List ByteArray) (acc gs : List (List Rw)), bkF acc ss = some gs → Book acc → (∀ g ∈ acc, lnP g ≤ 300) → Book gs ∧ ∀ g ∈ gs, lnP g ≤ 300
  | [], acc, gs, h, ha, hl => by simp [bkF] at h; subst h; exact ⟨ha, hl⟩
  | s :: ss, acc, gs, h, ha, hl => by
    unfold bkF at h
    split at h
    · rename_i ho
      unfold okNext at ho
      rw [Bool.and_eq_true, decide_eq_true_eq] at ho
      refine bkF_book ss _ gs h ⟨fun g hg => ?_, fun i a b h1 h2 => ?_⟩ (fun g hg => ?_)
      · rcases List.mem_append.1 hg with hg | hg
        · exact ha.good g hg
        · simp at hg
          subst hg
          exact ⟨readP_good ho.1, readP_some ho.1⟩
      · by_cases c : i + 1 < acc.length
        · rw [List.getElem?_append_left (by omega)] at h1
          rw [List.getElem?_append_left c] at h2
          exact ha.rise i a b h1 h2
        · have hi := (List.getElem?_eq_some_iff.1 h2).1
          simp at hi
          have e : acc.length = i + 1 := by omega
          rw [List.getElem?_append_left (by omega)] at h1
          rw [List.getElem?_append_right (by omega), e] at h2
          simp at h2
          subst h2
          have hgl : acc.getLast? = some a := by rw [List.getLast?_eq_getElem?, e]; exact h1
          rw [hgl] at ho
          exact ho.2
      · rcases List.mem_append.1 hg with hg | hg
        · exact hl g hg
        · simp at hg
          subst hg
          exact readP_fit ho.1
    · cases h

theorem bookF_book {ss : List ByteArray} {gs : List (List Rw)} (h : bookF ss = some gs) : Book gs ∧ (∀ g ∈ gs, lnP g ≤ 300) ∧ gs.length ≤ 40 := by
  have h40 := (bookF_is h).1
  unfold bookF at h
  split at h
  · obtain ⟨h1, h2⟩ := bkF_book ss [] gs h ⟨fun g hg => by simp at hg, fun i a b h1 => by simp at h1⟩ (fun g hg => by simp at hg)
    exact ⟨h1, h2, h40⟩
  · cases h

theorem bkF_back : ∀ (gs acc : List (List Rw)), Book (acc ++ gs) → (∀ g ∈ gs, lnP g ≤ 300) → bkF acc (gs.map pgB) = some (acc ++ gs)
  | [], acc, _, _ => by simp [bkF]
  | g :: gs, acc, hb, hl => by
    obtain ⟨hg, hg0⟩ := hb.good g (by simp)
    obtain ⟨hc, hr⟩ := page_back hg0 hg (hl g (by simp))
    have ho : okNext acc (pgB g) = true := by
      unfold okNext
      rw [hc, hr]
      cases h : acc.getLast? with
      | none => rfl
      | some a =>
        have h0 : acc.length ≠ 0 := fun e => by rw [List.eq_nil_of_length_eq_zero e] at h; simp at h
        rw [List.getLast?_eq_getElem?] at h
        have := hb.rise (acc.length - 1) a g (by rw [List.getElem?_append_left (by omega)]; exact h) (by rw [List.getElem?_append_right (by omega), show acc.length - 1 + 1 - acc.length = 0 by omega]; rfl)
        simpa using this
    show bkF acc (pgB g :: gs.map pgB) = _
    unfold bkF
    rw [ho, if_pos rfl, hr, bkF_back gs (acc ++ [g]) (by simpa using hb) (fun x hx => hl x (by simp [hx]))]
    simp

theorem bkF_long : ∀ (gs acc : List (List Rw)), Book (acc ++ gs) → (∃ g ∈ gs, ¬ lnP g ≤ 300) → bkF acc (gs.map pgB) = none
  | [], _, _, h => by obtain ⟨g, hg, _⟩ := h; simp at hg
  | g :: gs, acc, hb, h => by
    show bkF acc (pgB g :: gs.map pgB) = none
    unfold bkF
    by_cases hl : lnP g ≤ 300
    · obtain ⟨hg, hg0⟩ := hb.good g (by simp)
      obtain ⟨_, hr⟩ := page_back hg0 hg hl
      split
      · rw [hr]
        refine bkF_long gs (acc ++ [g]) (by simpa using hb) ?_
        obtain ⟨x, hx, hxl⟩ := h
        rcases List.mem_cons.1 hx with rfl | hx
        · exact absurd hl hxl
        · exact ⟨x, hx, hxl⟩
      · rfl
    · rw [if_neg]
      unfold okNext
      rw [page_long hl]
      simp

/-- What is written is read. -/
theorem bookF_back {gs : List (List Rw)} (hb : Book gs) : bookF (gs.map pgB) = if gs.length ≤ 40 ∧ (∀ g ∈ gs, lnP g ≤ 300) then some gs else none := by
  unfold bookF
  rw [List.length_map]
  by_cases h40 : gs.length ≤ 40
  · rw [if_pos h40]
    by_cases hl : ∀ g ∈ gs, lnP g ≤ 300
    · rw [if_pos ⟨h40, hl⟩]
      have := bkF_back gs [] (by simpa using hb) hl
      simpa using this
    · rw [if_neg (fun c => hl c.2)]
      refine bkF_long gs [] (by simpa using hb) ?_
      apply Classical.byContradiction
      intro hn
      exact hl fun g hg => Classical.byContradiction fun c => hn ⟨g, hg, c⟩
  · rw [if_neg h40, if_neg (fun c => h40 c.1)]

theorem rise_end {g : List Rw} (hg : Rise g) (h0 : 0 < g.length) : begK g = endK g ∨ ltK (begK g) (endK g) = true := by
  by_cases h : g.length = 1
  · left
    unfold begK endK
    rw [h]
  · right
    exact hg 0 (g.length - 1) (by omega) (by omega)

/-- The last keys rise. -/
theorem Book.ends {gs : List (List Rw)} (hb : Book gs) : ∀ (d i : Nat) (a b : List Rw), gs[i]? = some a → gs[i + 1 + d]? = some b → ltK (endK a) (endK b) = true
  | 0, i, a, b, h1, h2 => by
    have h3 := hb.rise i a b h1 h2
    obtain ⟨hg, h0⟩ := hb.good b (List.mem_of_getElem? h2)
    rcases rise_end (goodR_rise hg) h0 with e | e
    · rw [← e]; exact h3
    · exact ltK_trans h3 e
  | d + 1, i, a, b, h1, h2 => by
    have hlt := (List.getElem?_eq_some_iff.1 h2).1
    obtain ⟨c, hc⟩ : ∃ c, gs[i + 1 + d]? = some c := ⟨_, List.getElem?_eq_getElem (by omega)⟩
    exact ltK_trans (hb.ends d i a c h1 hc) (hb.ends 0 (i + 1 + d) c b hc h2)

/-- The page that a key belongs to, looked for from the front. -/
def plF (gs : List (List Rw)) (key : ByteArray) : Nat := (gs.takeWhile fun g => ltK (endK g) key).length

theorem takeWhile_at {α : Type} (p : α → Bool) : ∀ (l : List α) (k : Nat), (∀ (i : Nat) (a : α), i < k → l[i]? = some a → p a = true) → (∀ a, l[k]? = some a → p a = false) → k ≤ l.length → (l.takeWhile p).length = k
  | [], k, _, _, h => by simp at h; simp [h]
  | x :: l, 0, _, h2, _ => by
    have := h2 x rfl
    simp [List.takeWhile, this]
  | x :: l, k + 1, h1, h2, h => by
    have hx := h1 0 x (by omega) rfl
    have := takeWhile_at p l k (fun i a hi ha => h1 (i + 1) a (by omega) (by simpa using ha)) (fun a ha => h2 a (by simpa using ha)) (by simpa using h)
    simp [List.takeWhile, hx, this]

theorem pfF_is {gs : List (List Rw)} {key : ByteArray} (hb : Book gs) : ∀ (n lo hi k : Nat), hi - lo ≤ n → lo ≤ hi → hi ≤ gs.length → (∀ (i : Nat) (a : List Rw), i < lo → gs[i]? = some a → ltK (endK a) key = true) → (∀ (i : Nat) (a : List Rw), hi ≤ i → gs[i]? = some a → ltK (endK a) key = false) → (pfF gs key lo hi k).1 = plF gs key
  | 0, lo, hi, k, hn, h1, h2, h3, h4 => by
    rw [pfF_end (by omega)]
    obtain rfl : lo = hi := by omega
    exact (takeWhile_at _ gs lo h3 (fun a ha => h4 lo a (Nat.le_refl _) ha) h2).symm
  | n + 1, lo, hi, k, hn, h1, h2, h3, h4 => by
    by_cases c : lo < hi
    · obtain ⟨m, hm⟩ : ∃ m, (lo + hi) / 2 = m := ⟨_, rfl⟩
      obtain ⟨l, hl⟩ : ∃ l, gs[m]? = some l := ⟨_, List.getElem?_eq_getElem (by omega)⟩
      cases hk : ltK (endK l) key
      · rw [pfF_down c (by rw [hm]; exact hl) hk, hm]
        refine pfF_is hb n lo m _ (by omega) (by omega) (by omega) h3 (fun i a hi' ha => ?_)
        by_cases e : i = m
        · rw [e, hl] at ha
          rw [← Option.some.inj ha]; exact hk
        · cases f : ltK (endK a) key
          · rfl
          · rw [ltK_trans (hb.ends (i - m - 1) m l a hl (by rw [show m + 1 + (i - m - 1) = i by omega]; exact ha)) f] at hk; cases hk
      · rw [pfF_up c (by rw [hm]; exact hl) hk, hm]
        refine pfF_is hb n (m + 1) hi _ (by omega) (by omega) h2 (fun i a hi' ha => ?_) h4
        by_cases e : i = m
        · rw [e, hl] at ha
          rw [← Option.some.inj ha]; exact hk
        · exact ltK_trans (hb.ends (m - i - 1) i a l ha (by rw [show i + 1 + (m - i - 1) = m by omega]; exact hl)) hk
    · rw [pfF_end c]
      obtain rfl : lo = hi := by omega
      exact (takeWhile_at _ gs lo h3 (fun a ha => h4 lo a (Nat.le_refl _) ha) h2).symm

/-- Both ways to look for a page come to the same one. -/
theorem pageF_pl {gs : List (List Rw)} (hb : Book gs) (key : ByteArray) : (pageF gs key).1 = plF gs key :=
  pfF_is hb gs.length 0 gs.length 0 (by omega) (by omega) (Nat.le_refl _) (fun i a hi => by omega) (fun i a h1 h2 => by have := (List.getElem?_eq_some_iff.1 h2).1; omega)
end Go.Proofs.YticogafoopkflaaDoor
