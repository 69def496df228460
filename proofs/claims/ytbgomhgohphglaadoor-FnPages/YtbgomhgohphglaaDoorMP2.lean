/- Texts of mine laid together: PTree6, PPages6, ITake6, ITRow6, ITRowN, SRead6. -/
import Derived.Test.YtbgomhgohphglaaDoorMP1
import Derived.Test.YtbgomhgohphglaaDoorPages6
import Derived.Test.YtbgomhgohphglaaDoorRw
import Derived.Test.YtbgomhgohphglaaDoorGrown1
import Derived.Test.YtbgomhgohphglaaDoorPRead6
import Derived.Test.YtbgomhgohphglaaDoorISh6
import Derived.Test.YtbgomhgohphglaaDoorResC
import Derived.Deep.RegionHeldLaw
import Derived.Deep.RegionLaw
import Derived.Test.YtbgomhgohphglaaDoorSPage6
import Derived.Test.YtbgomhgohphglaaDoorRwK
import Derived.Test.YtbgomhgohphglaaDoorSGood6
import Derived.Deep.AppendLies
import Derived.Deep.Cut
import Derived.Deep.CutRange
namespace Go.Proofs.YtbgomhgohphglaaDoor

/-- Rows with another key. -/
def notK (key : ByteArray) (l : List Rw) : List Rw := l.filter (fun y => decide (y.key ≠ key))

theorem notK_app (key : ByteArray) (a b : List Rw) : notK key (a ++ b) = notK key a ++ notK key b := List.filter_append ..
theorem notK_all {key : ByteArray} {l : List Rw} (h : ∀ y ∈ l, y.key ≠ key) : notK key l = l := List.filter_eq_self.2 fun y hy => decide_eq_true (h y hy)

theorem rowsF_is {ss : List ByteArray} {gs : List (List Rw)} (lo hi : ByteArray) (h : bookF ss = some gs) : rowsF ss lo hi = gs.flatten.filter (inK lo hi) := by
  unfold rowsF
  rw [h]
  show fromK lo hi gs gs.length = _
  unfold fromK
  rw [List.take_length, List.filter_flatten]
  rfl

/-- The two ways in which rows are taken out go past each other. -/
theorem notK_from (key lo hi : ByteArray) (l : List Rw) : notK key (l.filter (inK lo hi)) = (notK key l).filter (inK lo hi) := by
  unfold notK
  rw [List.filter_filter, List.filter_filter]
  congr 1
  funext y
  exact Bool.and_comm _ _

theorem insR_not {l : List Rw} {x : Rw} (hr : Rise l) : notK x.key (insR l x) = notK x.key l := by
  have h1 := take_low (key := x.key) hr
  have h2 := drop_high (key := x.key) hr
  have e3 : notK x.key [x] = [] := by unfold notK; simp
  have ea : notK x.key (insR l x) = l.take (placeF l x.key) ++ l.drop (if thereF l x.key then placeF l x.key + 1 else placeF l x.key) := by
    unfold insR
    rw [notK_app, notK_app, e3, List.nil_append, notK_all (fun y hy => ltK_ne (h1 y hy)), notK_all (fun y hy => (ltK_ne (h2 y hy)).symm)]
  rw [ea]
  cases ht : thereF l x.key
  · rw [notK_all (rowIn_not hr ht)]
    simp only [Bool.false_eq_true, if_false]
    exact List.take_append_drop _ _
  · have := filter_there hr ht
    unfold notK
    rw [this]
    simp only [if_true]
    rfl

theorem putG_flat {gs : List (List Rw)} {x : Rw} (hb : Book gs) (h0 : gs.length ≠ 0) : notK x.key (putG gs x).flatten = notK x.key gs.flatten ∧ x ∈ (putG gs x).flatten := by
  have hal : atP gs x.key < gs.length := by unfold atP; omega
  obtain ⟨l, hl⟩ : ∃ l, gs[atP gs x.key]? = some l := ⟨_, List.getElem?_eq_getElem hal⟩
  have lr := goodR_rise (hb.good l (List.mem_of_getElem? hl)).1
  have e1 : (putG gs x).flatten = (gs.take (atP gs x.key)).flatten ++ (insR l x ++ (gs.drop (atP gs x.key + 1)).flatten) := by
    unfold putG
    rw [hl]
    show (gs.take _ ++ (partF (insR l x) ++ gs.drop _)).flatten = _
    rw [List.flatten_append, List.flatten_append, partF_flat _ _ (Nat.le_refl _)]
  have e2 : gs.flatten = (gs.take (atP gs x.key)).flatten ++ (l ++ (gs.drop (atP gs x.key + 1)).flatten) := by
    conv => lhs; rw [← List.take_append_drop (atP gs x.key) gs, drop_succ hl]
    simp
  constructor
  · rw [e1, e2, notK_app, notK_app, notK_app, notK_app, insR_not lr]
  · rw [e1]
    refine List.mem_append_right _ (List.mem_append_left _ ?_)
    unfold insR
    simp

/-- Pages of a book that may be one are read as it. -/
theorem ansG_read {G : List (List Rw)} {q : List ByteArray} (hb : Book G) (h : ansG G = some q) : q = G.map pgB ∧ bookF q = some G := by
  obtain ⟨rfl, h40⟩ := ansG_some h
  refine ⟨rfl, ?_⟩
  have e := ansG_spec hb
  rw [h] at e
  have e2 := bookF_back hb
  by_cases hc : G.length ≤ 40 ∧ ∀ g ∈ G, lnP g ≤ 300
  · rw [e2, if_pos hc]
  · rw [e2, if_neg hc] at e
    cases e

theorem book_one {x : Rw} (hx : okPB [x] = true) : Book [[x]] := by
  obtain ⟨h1, h2, h3⟩ := okPB_sz hx
  refine ⟨fun g hg => by simp at hg; subst hg; exact ⟨h1, by simp⟩, fun i a b ha hb => ?_⟩
  have := (List.getElem?_eq_some_iff.1 hb).1
  simp at this

/-- What is put is there with all others. -/
theorem put_tree {ss q : List ByteArray} {x : Rw} (h : putA ss x = some q) : ∃ gs G, bookF ss = some gs ∧ bookF q = some G ∧ x ∈ G.flatten ∧ notK x.key G.flatten = notK x.key gs.flatten := by
  cases hb : bookF ss with
  | none => rw [putA_bad hb] at h; cases h
  | some gs =>
    cases hx : okPB [x] with
    | false => rw [putA_no hx] at h; cases h
    | true =>
      by_cases h0 : gs.length = 0
      · rw [putA_one hb hx h0] at h
        obtain rfl := Option.some.inj h
        have hbk := bookF_back (book_one hx)
        rw [if_pos ⟨by simp, fun g hg => by simp at hg; subst hg; exact (okPB_sz hx).2.2⟩] at hbk
        refine ⟨gs, [[x]], rfl, hbk, by simp, ?_⟩
        rw [List.eq_nil_of_length_eq_zero h0]
        simp [notK]
      · obtain ⟨b1, b2, b3⟩ := bookF_book hb
        have hx1 := okPB_sz hx
        have hbook := putG_book b1 b2 h0 hx1.2.1 hx1.2.2
        by_cases hf : (putG gs x).flatten.length ≤ 60
        · rw [putA_more hb hx h0 hf] at h
          obtain ⟨_, hr⟩ := ansG_read hbook h
          obtain ⟨p1, p2⟩ := putG_flat (x := x) b1 h0
          exact ⟨gs, putG gs x, rfl, hr, p2, p1⟩
        · rw [putA_full hb hx h0 hf] at h
          cases h

/-- What is dropped leaves the others. -/
theorem drop_tree {q : List ByteArray} {G : List (List Rw)} {x : Rw} (h : bookF q = some G) (hx : x ∈ G.flatten) : ∃ d G', dropA q x.key = some d ∧ d = G'.map pgB ∧ bookF d = some G' ∧ G'.flatten = notK x.key G.flatten := by
  obtain ⟨hb, hfit, h40⟩ := bookF_book h
  obtain ⟨g, hg, hxg⟩ := List.mem_flatten.1 hx
  obtain ⟨i, hi⟩ := List.getElem?_of_mem hg
  have hil := (List.getElem?_eq_some_iff.1 hi).1
  have hp := plF_row hb hi hxg
  have gr := goodR_rise (hb.good g hg).1
  have ht : thereF g x.key = true := by
    cases ht : thereF g x.key with
    | true => rfl
    | false => exact absurd rfl (rowIn_not gr ht x hxg)
  have hda := dropA_yes h (by rw [hp]; exact hi) ht
  rw [hp] at hda
  have hbook := dropG_book hb hi (dropR_sub g x.key)
  obtain ⟨c1, c2, c3⟩ := dropG_cases G i (dropR g x.key) hil
  have hfits : ∀ p ∈ dropG G i (dropR g x.key), lnP p ≤ 300 := fun p hp => by
    rcases c2 p hp with h1 | ⟨rfl, _⟩ | ⟨h1, _⟩
    · exact hfit p h1
    · exact Nat.le_trans (dropR_fit gr ht) (hfit g hg)
    · exact h1
  have hans : ansG (dropG G i (dropR g x.key)) = some ((dropG G i (dropR g x.key)).map pgB) := by
    unfold ansG
    rw [if_pos ⟨by omega, by rw [List.all_eq_true]; intro p hp; exact decide_eq_true (hfits p hp)⟩]
  obtain ⟨_, hr⟩ := ansG_read hbook hans
  refine ⟨_, _, by rw [hda, hans], rfl, hr, ?_⟩
  rw [c1]
  have e2 : G.flatten = (G.take i).flatten ++ (g ++ (G.drop (i + 1)).flatten) := by
    conv => lhs; rw [← List.take_append_drop i G, drop_succ hi]
    simp
  have hpw := hb.pw
  rw [e2] at hpw
  unfold PW at hpw
  rw [List.pairwise_append, List.pairwise_append] at hpw
  obtain ⟨_, ⟨_, _, q4⟩, q5⟩ := hpw
  rw [e2, notK_app, notK_app, notK_all (fun y hy => ltK_ne (q5 y hy x (List.mem_append_left _ hxg))), notK_all (fun y hy => (ltK_ne (q4 x hxg y hy)).symm)]
  congr 2
  exact (filter_there gr ht).symm

theorem leastF_pos {ss : List ByteArray} (h : ∀ s ∈ ss, 1 ≤ s.size) : ∀ k, 0 < k → k ≤ ss.length → 1 ≤ leastF ss k
  | 0, h0, _ => by omega
  | k + 1, _, hl => by
    obtain ⟨s, hs⟩ : ∃ s, ss[k]? = some s := ⟨_, List.getElem?_eq_getElem (by omega)⟩
    have h1 := h s (List.mem_of_getElem? hs)
    by_cases hk : k = 0
    · subst hk; rw [leastF_zero hs]; exact h1
    · by_cases h2 : s.size < leastF ss k
      · rw [leastF_yes hs h2]; exact h1
      · rw [leastF_no hs hk h2]; exact leastF_pos h k (by omega) (by omega)

theorem least_tree {d : List ByteArray} {G : List (List Rw)} (h : d = G.map pgB) (hb : bookF d = some G) : (0 < leastA d ↔ 0 < d.length) := by
  unfold leastA
  rw [hb]
  simp only [Option.isSome_some, if_true]
  have hs : ∀ s ∈ d, 1 ≤ s.size := fun s hm => by
    rw [h] at hm
    obtain ⟨g, _, rfl⟩ := List.mem_map.1 hm
    rw [pgB_size, lnP_is]
    omega
  constructor
  · intro h1
    cases hd : d.length with
    | zero => rw [hd] at h1; simp [leastF] at h1
    | succ n => omega
  · intro h1
    have := leastF_pos hs d.length h1 (Nat.le_refl _)
    omega
end Go.Proofs.YtbgomhgohphglaaDoor

namespace Go.Proofs.YtbgomhgohphglaaDoor
open Go.RowKit

theorem bkF_codes : ∀ (ss : List ByteArray) (acc gs : List (List Rw)), bkF acc ss = some gs → gs = acc ++ ss.map readP ∧ ∀ s ∈ ss, codeP s = 0
  | [], acc, gs, h => by
    have h' : some acc = some gs := h
    cases h'
    simp
  | s :: ss, acc, gs, h => by
    unfold bkF at h
    by_cases ho : okNext acc s = true
    · rw [if_pos ho] at h
      obtain ⟨h1, h2⟩ := bkF_codes ss _ gs h
      refine ⟨by rw [h1]; simp, fun t ht => ?_⟩
      rcases List.mem_cons.1 ht with rfl | ht
      · unfold okNext at ho
        rw [Bool.and_eq_true, decide_eq_true_eq] at ho
        exact ho.1
      · exact h2 t ht
    · rw [if_neg ho] at h
      cases h

theorem bookF_codes {ss : List ByteArray} {gs : List (List Rw)} (h : bookF ss = some gs) : gs = ss.map readP ∧ ∀ s ∈ ss, codeP s = 0 := by
  unfold bookF at h
  split at h
  · have := bkF_codes ss [] gs h
    simpa using this
  · cases h

theorem cutA_flat {l : List Rw} {gs : List (List Rw)} (h : cutA l = some gs) : goodR l = true ∧ gs.flatten = l := by
  by_cases hg : goodR l = true
  · refine ⟨hg, ?_⟩
    rw [cutA_is hg] at h
    cases hs : scF [] l with
    | none => rw [hs] at h; cases h
    | some r =>
      rw [hs] at h
      have hr := scF_flat l [] r hs
      unfold cap40 at h
      simp only at h
      split at h
      · cases h
        simpa using hr
      · cases h
  · unfold cutA at h
    rw [if_neg hg] at h
    cases h

/-- Rows that are cut into pages: the pages are a book of them. -/
theorem pages_tree {l : List Rw} {p : List ByteArray} (h : pagesA l = some p) : ∃ gs, bookF p = some gs ∧ gs.flatten = l ∧ gs = p.map readP ∧ (∀ s ∈ p, codeP s = 0) ∧ p.length ≤ 40 ∧ ∀ s ∈ p, s.size ≤ 300 := by
  cases hc : cutA l with
  | none => rw [pagesA_none hc] at h; cases h
  | some gs =>
    rw [pagesA_some hc] at h
    cases h
    obtain ⟨hg, hf⟩ := cutA_flat hc
    obtain ⟨h40, hok⟩ := cutA_ok hc
    have hm : gs.map pbT = gs.map pgB := List.map_congr_left fun g hgm => pbT_pg (hok g hgm)
    have hb := cut_book hg hf hok
    have hbk : bookF (gs.map pbT) = some gs := by
      rw [hm, bookF_back hb, if_pos ⟨h40, fun g hgm => (okPB_fit (hok g hgm)).1⟩]
    obtain ⟨h1, h2⟩ := bookF_codes hbk
    refine ⟨gs, hbk, hf, h1, h2, by simpa using h40, fun s hs => ?_⟩
    obtain ⟨g, _, rfl⟩ := List.mem_map.1 hs
    exact pbT_size g
end Go.Proofs.YtbgomhgohphglaaDoor

namespace Go.Proofs.YtbgomhgohphglaaDoor
open Go.RowKit

/-- A page's reader in memory. -/
def PgR (w : World) (b : Nat) (t : ByteArray) : Prop := w.heap[b]? = some (.cells #[.string t] 91)

theorem PgR.cell {w : World} {b : Nat} {t : ByteArray} (h : PgR w b t) : w.cell? ⟨b, 0, none⟩ = some (.string t) := cell_of_row _ _ 0 _ _ _ h
theorem PgR.frozen {w : World} {b : Nat} {t : ByteArray} (h : PgR w b t) (j : Nat) : w.frozen? ⟨b, j, none⟩ = false := by unfold PgR at h; simp [World.frozen?, h]
theorem PgR.lt {w : World} {b : Nat} {t : ByteArray} (h : PgR w b t) : b < w.heap.size := (Array.getElem?_eq_some_iff.1 h).1
theorem PgR.set {w : World} {b : Nat} {t : ByteArray} (h : PgR w b t) (u : ByteArray) : PgR (w.setCell ⟨b, 0, none⟩ (.string u)) b u := by
  unfold PgR at h ⊢
  simp [World.setCell, Array.getElem?_modify, h]
theorem PgR.below {w w' : World} {b : Nat} {t : ByteArray} (h : PgR w b t) (hb : Below w.heap.size w w') : PgR w' b t := (hb.block b h.lt).trans h

set_option maxRecDepth 100000 in
set_option maxHeartbeats 1000000 in
theorem take_ok {w : World} {b n : Nat} {t : ByteArray} (hb : PgR w b t) (hn : n ≤ t.size) :
    Calls Tryd.prog 62 #[.pointer (some ⟨b, 0, none⟩), .int .i64 (n : Int)] w fun e w' => e = .returned (.string (t.extract 0 n)) ∧ w' = w.setCell ⟨b, 0, none⟩ (.string (t.extract n t.size)) := by
  have c0 := hb.cell
  have f0 := hb.frozen 0
  have l0 := hb.lt
  have h1 : (n : Int) ≤ (t.size : Int) := by omega
  go_enter Tryd.func62, Tryd.ntmps62
  go_wp2
  go_ret
  exact ⟨rfl, rfl⟩

set_option maxRecDepth 100000 in
set_option maxHeartbeats 1000000 in
theorem take_no {w : World} {b n : Nat} {t : ByteArray} {ty : TypeId} {pv : Value} (hg : w.cell? ⟨0, 0, none⟩ = some (.iface ty pv)) (hb : PgR w b t) (hn : t.size < n) :
    Calls Tryd.prog 62 #[.pointer (some ⟨b, 0, none⟩), .int .i64 (n : Int)] w fun e w' => e = .panicked [{ v := .iface ty pv, recovered := false }] ∧ w' = w := by
  have c0 := hb.cell
  have l0 := hb.lt
  have h1 : ¬ (n : Int) ≤ (t.size : Int) := by omega
  go_enter Tryd.func62, Tryd.ntmps62
  go_wp2
  exact ⟨rfl, rfl, rfl⟩
end Go.Proofs.YtbgomhgohphglaaDoor

namespace Go.Proofs.YtbgomhgohphglaaDoor
open Go.RowKit

theorem take_okG {w : World} {b n : Nat} {t : ByteArray} (hb : PgR w b t) (hn : n ≤ t.size) :
    Calls Tryd.prog 62 #[.pointer (some ⟨b, 0, none⟩), .int .i64 (n : Int)] w fun e w' => e = .returned (.string (t.extract 0 n)) ∧ PgR w' b (t.extract n t.size) ∧ w.grownBy w' (some b) :=
  (take_ok hb hn).mono fun e w' ⟨h1, h2⟩ => ⟨h1, by rw [h2]; exact hb.set _, by rw [h2]; exact setCell_grown w b 0 _⟩

theorem PgR.alloc {w : World} {b : Nat} {t : ByteArray} (h : PgR w b t) (o : Obj) : PgR (w.alloc o) b t := h.below ((Below.refl _ _).alloc (Nat.le_refl _) _)
theorem PgR.drew {w : World} {b : Nat} {t : ByteArray} (h : PgR w b t) : PgR w.drew b t := h

theorem grown_al {w w' : World} {b : Nat} {o : Obj} (h : (w.alloc o).grownBy w' (some b)) (_hb : b < w.heap.size) : w.grownBy w' (some b) :=
  (World.grownBy_alloc w o (some b)).trans h
theorem grown_dr {w w' : World} {r : Option Nat} (h : w.drew.grownBy w' r) : w.grownBy w' r := ⟨h.os, h.tape, h.output, h.size, h.block⟩

/-- The box of a row that is to be answered. -/
def BoxT (w : World) (b : Nat) : Prop := w.heap[b]? = some (.cells #[.string ⟨#[]⟩, .string ⟨#[]⟩, .string ⟨#[]⟩] 32)

theorem BoxT.lt {w : World} {b : Nat} (h : BoxT w b) : b < w.heap.size := (Array.getElem?_eq_some_iff.1 h).1
theorem BoxT.frozen {w : World} {b : Nat} (h : BoxT w b) (j : Nat) : w.frozen? ⟨b, j, none⟩ = false := by unfold BoxT at h; simp [World.frozen?, h]

theorem three_other (u : World) (b k : Nat) (x0 x1 x2 : Value) (h : b ≠ k) : (((u.setCell ⟨b, 0, none⟩ x0).setCell ⟨b, 1, none⟩ x1).setCell ⟨b, 2, none⟩ x2).heap[k]? = u.heap[k]? := by
  simp [World.setCell, Array.getElem?_modify, h]

theorem grown_new3 {w u : World} {b c : Nat} {x0 x1 x2 : Value} (h : w.grownBy u (some b)) (hc : w.heap.size ≤ c) : w.grownBy (((u.setCell ⟨c, 0, none⟩ x0).setCell ⟨c, 1, none⟩ x1).setCell ⟨c, 2, none⟩ x2) (some b) :=
  ⟨h.os, h.tape, h.output, by simpa using h.size, fun k hk hne => (three_other u c k x0 x1 x2 (by omega)).trans (h.block k hk hne)⟩

theorem boxT_kept {w1 w2 w3 w4 : World} {b c : Nat} (hb : b < c) (h : BoxT w1 c) (g2 : w1.drew.grownBy w2 (some b)) (g3 : w2.grownBy w3 (some b)) (g4 : w3.grownBy w4 (some b)) : BoxT w4 c := by
  have hn : some c ≠ some b := fun e => by cases e; omega
  have h2 : BoxT w2 c := (g2.block c h.lt hn).trans h
  have h3 : BoxT w3 c := (g3.block c h2.lt hn).trans h2
  exact (g4.block c h3.lt hn).trans h3

theorem hd_index {t : ByteArray} (h4 : 4 ≤ t.size) (i : Nat) (hi : i < 4) (u : World) : (Instr.index 9 (.string (t.extract 0 4)) (.int .i64 (i : Int))).run Tryd.prog u = .ok (.int .u8 (hd t i : Int)) u := by
  have h := index_str (t.extract 0 4) i (by rw [ext_size t h4]; omega) u
  rw [bAt_ext t h4 (by omega), Nat.zero_add] at h
  exact h

set_option maxRecDepth 100000 in
set_option maxHeartbeats 4000000 in
theorem takeRow_ok {w : World} {b : Nat} {t p : ByteArray} (hb : PgR w b t) (hok : okRow p t = true) (_hp : p.size ≤ 1048576) (htz : t.size ≤ 1048576) :
    Calls Tryd.prog 63 #[.pointer (some ⟨b, 0, none⟩), .string p] w fun e w' => e = .returned (rwV (rowOf p t)) ∧ PgR w' b (restOf t) ∧ w.grownBy w' (some b) := by
  obtain ⟨h4, hn, h5⟩ := okRow_parts hok
  have hbl := hb.lt
  have T0 : Calls Tryd.prog 62 #[.pointer (some ⟨b, 0, none⟩), .int .i64 4] _ _ := take_okG (n := 4) (hb.alloc (.cells #[.string ⟨#[]⟩, .string ⟨#[]⟩, .string ⟨#[]⟩] 32)) h4
  have x0 : ∀ u : World, (Instr.index 9 (.string (t.extract 0 4)) (.int .i64 0)).run Tryd.prog u = .ok (.int .u8 (hd t 0 : Int)) u := hd_index h4 0 (by omega)
  have x1 : ∀ u : World, (Instr.index 9 (.string (t.extract 0 4)) (.int .i64 1)).run Tryd.prog u = .ok (.int .u8 (hd t 1 : Int)) u := hd_index h4 1 (by omega)
  have x2 : ∀ u : World, (Instr.index 9 (.string (t.extract 0 4)) (.int .i64 2)).run Tryd.prog u = .ok (.int .u8 (hd t 2 : Int)) u := hd_index h4 2 (by omega)
  have x3 : ∀ u : World, (Instr.index 9 (.string (t.extract 0 4)) (.int .i64 3)).run Tryd.prog u = .ok (.int .u8 (hd t 3 : Int)) u := hd_index h4 3 (by omega)
  have l0 := hd_lt t 0
  have l1 := hd_lt t 1
  have l2 := hd_lt t 2
  have l3 := hd_lt t 3
  obtain ⟨hr1, hr2⟩ := row_parts hok
  have s1 := lf1_size (t := t)
  have s2 := lf2_size (t := t) (by omega)
  have s3 := lf3_size (t := t) (by omega)
  have TA := fun (u : World) (h : PgR u b (lf1 t)) => take_okG (n := hd t 1) h (by omega)
  have TB := fun (u : World) (h : PgR u b (lf2 t)) => take_okG (n := hd t 2) h (by omega)
  have TC := fun (u : World) (h : PgR u b (lf3 t)) => take_okG (n := hd t 3) h (by omega)
  rw [← hr2] at TC
  rw [hr1]
  rw [show (lf1 t).extract (hd t 1) (lf1 t).size = lf2 t from rfl] at TA
  rw [show (lf2 t).extract (hd t 2) (lf2 t).size = lf3 t from rfl] at TB
  rw [show t.extract 4 t.size = lf1 t from rfl] at T0
  have q1 : ((lf1 t).extract 0 (hd t 1)).size = hd t 1 := ext_size _ (by omega)
  have q0 : (p.extract 0 (hd t 0)).size = hd t 0 := ext_size _ hn
  have hn8 : (hd t 0 : Int) ≤ (p.size : Int) := by omega
  unfold rwV
  simp only
  clear hok hr1 hr2 s1 s2 s3
  generalize (lf1 t).extract 0 (hd t 1) = kx at *
  generalize (lf2 t).extract 0 (hd t 2) = tx at *
  generalize (lf3 t).extract 0 (hd t 3) = vx at *
  generalize hd t 0 = n0 at *
  generalize hd t 1 = k1 at *
  generalize hd t 2 = k2 at *
  generalize hd t 3 = k3 at *
  generalize lf1 t = t1 at *
  generalize lf2 t = t2 at *
  generalize lf3 t = t3 at *
  generalize t.extract 0 4 = hx at *
  generalize restOf t = tz at *
  go_enter Tryd.func63, Tryd.ntmps63
  go_wp2_with fail
  refine T0.mono ?_
  rintro e w1 ⟨rfl, P1, g1⟩
  have HTA : Hid (Calls _ _ _ _ _) := TA _ P1.drew
  have HTB : Hid _ := TB
  have HTC : Hid _ := TC
  have HG1 : Hid (World.grownBy _ _ _) := g1
  have hbx : BoxT w1 w.heap.size := (g1.block w.heap.size (by simp) (fun e => by cases e; omega)).trans (heap_alloc_new w _)
  have HBX : Hid (BoxT w1 w.heap.size) := hbx
  clear T0 TA hb P1 TB TC hbx g1
  go_wp2_with fail
  have hc1 : ¬ 9223372036854775807 < n0 + k1 := by omega
  have v1 : IntKind.i64.wrap (k1 : Int) = (k1 : Int) := by rw [IntKind.wrap_i64]; omega
  have v2 : IntKind.i64.wrap (k2 : Int) = (k2 : Int) := by rw [IntKind.wrap_i64]; omega
  have v3 : IntKind.i64.wrap (k3 : Int) = (k3 : Int) := by rw [IntKind.wrap_i64]; omega
  have hbn : some w.heap.size ≠ some b := fun e => by cases e; omega
  clear hbn
  go_region_law (first
    | (go_simp; go_at_call 62; refine HTA.out.mono ?_; clear HTA; rintro e w2 ⟨rfl, P2, g2⟩; have HTB1 : Hid (Calls _ _ _ _ _) := HTB.out _ P2; have HP2 : Hid (PgR w2 b t2 ∧ w1.drew.grownBy w2 (some b)) := ⟨P2, g2⟩; clear P2 g2)
    | (go_simp; go_at_call 62; refine HTB1.out.mono ?_; clear HTB1; rintro e w3 ⟨rfl, P3, g3⟩; have HTC1 : Hid (Calls _ _ _ _ _) := HTC.out _ P3; have HP3 : Hid (PgR w3 b t3 ∧ w2.grownBy w3 (some b)) := ⟨P3, g3⟩; clear P3 g3)
    | (go_simp; go_at_call 62; refine HTC1.out.mono ?_; clear HTC1; rintro e w4 ⟨rfl, P4, g4⟩; have HP4 : Hid (PgR w4 b tz ∧ w3.grownBy w4 (some b)) := ⟨P4, g4⟩; have hbx4 : BoxT w4 w.heap.size := boxT_kept hbl HBX.out HP2.out.2 HP3.out.2 g4; have z0 := cell_of_row _ _ 0 _ _ _ hbx4; have z1 := cell_of_row _ _ 1 _ _ _ hbx4; have z2 := cell_of_row _ _ 2 _ _ _ hbx4; have fz : ∀ j, w4.frozen? ⟨w.heap.size, j, none⟩ = false := hbx4.frozen; have lz := hbx4.lt; clear hbx4 P4 g4))
  all_goals
    have GG : Hid (w.grownBy w4 (some b)) := (((grown_al HG1.out hbl).trans (grown_dr HP2.out.2)).trans HP3.out.2).trans HP4.out.2
    have PZ : Hid (∀ x0 x1 x2, PgR (((w4.setCell ⟨w.heap.size, 0, none⟩ x0).setCell ⟨w.heap.size, 1, none⟩ x1).setCell ⟨w.heap.size, 2, none⟩ x2) b tz) := fun x0 x1 x2 => (three_other w4 w.heap.size b x0 x1 x2 (by omega)).trans HP4.out.1
    have GZ : Hid (∀ x0 x1 x2, w.grownBy (((w4.setCell ⟨w.heap.size, 0, none⟩ x0).setCell ⟨w.heap.size, 1, none⟩ x1).setCell ⟨w.heap.size, 2, none⟩ x2) (some b)) := fun x0 x1 x2 => grown_new3 GG.out (Nat.le_refl _)
    clear HG1 HP2 HP3 HP4 HBX GG
    go_wp2
    refine bodyPost_ret (v := .agg #[.string (p.extract 0 n0 ++ kx), .string tx, .string vx]) ?_ rfl ⟨rfl, PZ.out _ _ _, GZ.out _ _ _⟩
    rw [results_cell1 rfl]
    go_simp
end Go.Proofs.YtbgomhgohphglaaDoor

namespace Go.Proofs.YtbgomhgohphglaaDoor
open Go.RowKit

/-- What is panicked with. -/
def ErrG (w : World) (ty : TypeId) (pv : Value) : Prop := w.cell? ⟨0, 0, none⟩ = some (.iface ty pv)

theorem ErrG.lt {w : World} {ty : TypeId} {pv : Value} (h : ErrG w ty pv) : 0 < w.heap.size := rw_cell_lt h
theorem ErrG.grown {w w' : World} {b : Nat} {ty : TypeId} {pv : Value} (h : ErrG w ty pv) (hg : w.grownBy w' (some b)) (hb : 0 < b) : ErrG w' ty pv :=
  (World.cell?_of_block (a := ⟨0, 0, none⟩) (hg.block _ h.lt (fun e => by have h2 : 0 = b := Option.some.inj e; omega))).trans h
theorem ErrG.alloc {w : World} {ty : TypeId} {pv : Value} (h : ErrG w ty pv) (o : Obj) : ErrG (w.alloc o) ty pv :=
  (World.cell?_of_block (a := ⟨0, 0, none⟩) (Below.heap_alloc w o _ h.lt)).trans h
theorem ErrG.drew {w : World} {ty : TypeId} {pv : Value} (h : ErrG w ty pv) : ErrG w.drew ty pv := h

theorem take_noG {w : World} {b n : Nat} {t : ByteArray} {ty : TypeId} {pv : Value} (hg : ErrG w ty pv) (hb : PgR w b t) (hn : t.size < n) :
    Calls Tryd.prog 62 #[.pointer (some ⟨b, 0, none⟩), .int .i64 (n : Int)] w fun e w' => e = .panicked [{ v := .iface ty pv, recovered := false }] ∧ w.grownBy w' (some b) :=
  (take_no hg hb hn).mono fun e w' ⟨h1, h2⟩ => ⟨h1, by rw [h2]; exact World.grownBy.refl _ _⟩

set_option maxRecDepth 100000 in
set_option maxHeartbeats 4000000 in
theorem takeRow_no {w : World} {b : Nat} {t p : ByteArray} {ty : TypeId} {pv : Value} (hg : ErrG w ty pv) (hgb : 0 < b) (hb : PgR w b t) (hok : okRow p t = false) (_hp : p.size ≤ 1048576) (htz : t.size ≤ 1048576) :
    Calls Tryd.prog 63 #[.pointer (some ⟨b, 0, none⟩), .string p] w fun e w' => e = .panicked [{ v := .iface ty pv, recovered := false }] ∧ w.grownBy w' (some b) := by
  have hbl := hb.lt
  by_cases h4 : 4 ≤ t.size
  · have T0 : Calls Tryd.prog 62 #[.pointer (some ⟨b, 0, none⟩), .int .i64 4] _ _ := take_okG (n := 4) (hb.alloc (.cells #[.string ⟨#[]⟩, .string ⟨#[]⟩, .string ⟨#[]⟩] 32)) h4
    have G0 := hg.alloc (.cells #[.string ⟨#[]⟩, .string ⟨#[]⟩, .string ⟨#[]⟩] 32)
    have x0 : ∀ u : World, (Instr.index 9 (.string (t.extract 0 4)) (.int .i64 0)).run Tryd.prog u = .ok (.int .u8 (hd t 0 : Int)) u := hd_index h4 0 (by omega)
    have x1 : ∀ u : World, (Instr.index 9 (.string (t.extract 0 4)) (.int .i64 1)).run Tryd.prog u = .ok (.int .u8 (hd t 1 : Int)) u := hd_index h4 1 (by omega)
    have x2 : ∀ u : World, (Instr.index 9 (.string (t.extract 0 4)) (.int .i64 2)).run Tryd.prog u = .ok (.int .u8 (hd t 2 : Int)) u := hd_index h4 2 (by omega)
    have x3 : ∀ u : World, (Instr.index 9 (.string (t.extract 0 4)) (.int .i64 3)).run Tryd.prog u = .ok (.int .u8 (hd t 3 : Int)) u := hd_index h4 3 (by omega)
    have l0 := hd_lt t 0
    have l1 := hd_lt t 1
    have l2 := hd_lt t 2
    have l3 := hd_lt t 3
    rw [show t.extract 4 t.size = lf1 t from rfl] at T0
    by_cases hn : hd t 0 ≤ p.size
    · have s1 := lf1_size (t := t)
      have hn8 : (hd t 0 : Int) ≤ (p.size : Int) := by omega
      have q0 : (p.extract 0 (hd t 0)).size = hd t 0 := ext_size _ hn
      have NO := fun (u : World) (tt : ByteArray) (m : Nat) (hG : ErrG u ty pv) (h : PgR u b tt) (hm : tt.size < m) => take_noG (n := m) hG h hm
      by_cases hA : 4 + hd t 1 ≤ t.size
      · have s2 := lf2_size (t := t) hA
        have TA := fun (u : World) (h : PgR u b (lf1 t)) => take_okG (n := hd t 1) h (by omega)
        rw [show (lf1 t).extract (hd t 1) (lf1 t).size = lf2 t from rfl] at TA
        have q1 : ((lf1 t).extract 0 (hd t 1)).size = hd t 1 := ext_size _ (by omega)
        by_cases hB : 4 + hd t 1 + hd t 2 ≤ t.size
        · have s3 := lf3_size (t := t) hB
          have hC : ¬ 4 + hd t 1 + hd t 2 + hd t 3 ≤ t.size := fun h => by
            unfold okRow at hok
            rw [decide_eq_true h4, decide_eq_true hn, decide_eq_true h] at hok
            cases hok
          have TB := fun (u : World) (h : PgR u b (lf2 t)) => take_okG (n := hd t 2) h (by omega)
          rw [show (lf2 t).extract (hd t 2) (lf2 t).size = lf3 t from rfl] at TB
          have TN := fun (u : World) (hG : ErrG u ty pv) (h : PgR u b (lf3 t)) => NO u (lf3 t) (hd t 3) hG h (by omega)
          generalize (lf1 t).extract 0 (hd t 1) = kx at *
          generalize (lf2 t).extract 0 (hd t 2) = tx at *
          generalize hd t 0 = n0 at *
          generalize hd t 1 = k1 at *
          generalize hd t 2 = k2 at *
          generalize hd t 3 = k3 at *
          generalize lf1 t = t1 at *
          generalize lf2 t = t2 at *
          generalize lf3 t = t3 at *
          generalize t.extract 0 4 = hx at *
          go_enter Tryd.func63, Tryd.ntmps63
          go_wp2_with fail
          refine T0.mono ?_
          rintro e w1 ⟨rfl, P1, g1⟩
          have HTA : Hid (Calls _ _ _ _ _) := TA _ P1.drew
          have HE1 : Hid (ErrG w1 ty pv) := G0.grown g1 hgb
          have HG1 : Hid (World.grownBy _ _ _) := grown_al g1 hbl
          have HTN : Hid _ := TN
          have HTB : Hid _ := TB
          clear T0 TN NO TA hb P1 g1 hok TB
          go_wp2_with fail
          have v1 : IntKind.i64.wrap (k1 : Int) = (k1 : Int) := by rw [IntKind.wrap_i64]; omega
          have v2 : IntKind.i64.wrap (k2 : Int) = (k2 : Int) := by rw [IntKind.wrap_i64]; omega
          have v3 : IntKind.i64.wrap (k3 : Int) = (k3 : Int) := by rw [IntKind.wrap_i64]; omega
          have hc1 : ¬ 9223372036854775807 < n0 + k1 := by omega
          refine wp_region_any (by kernel_rfl) ?_
          refine wpAny_take (i := 0) (v := .string p) rfl (by kernel_rfl) (by kernel_rfl) (by kernel_rfl) (fun _ _ _ h => h) (Or.inl ⟨by rfl, fun u => (by go_simp)⟩) ?_
          refine wpAny_take (i := 1) (v := .int .i64 (n0 : Int)) rfl (by kernel_rfl) (by kernel_rfl) (by kernel_rfl) (fun _ _ _ h => h) (Or.inl ⟨by rfl, fun u => (by go_simp)⟩) ?_
          refine wpAny_take (i := 2) (v := .string (p.extract 0 n0)) rfl (by kernel_rfl) (by kernel_rfl) (by kernel_rfl) (fun _ _ _ h => h) (Or.inl ⟨by rfl, fun u => (by go_simp)⟩) ?_
          refine wpAny_take (i := 3) (v := .pointer (some ⟨b, 0, none⟩)) rfl (by kernel_rfl) (by kernel_rfl) (by kernel_rfl) (fun _ _ _ h => h) (Or.inl ⟨by rfl, fun u => (by go_simp)⟩) ?_
          refine wpAny_take (i := 4) (v := .string hx) rfl (by kernel_rfl) (by kernel_rfl) (by kernel_rfl) (fun _ _ _ h => h) (Or.inl ⟨by rfl, fun u => (by go_simp)⟩) ?_
          refine wpAny_take (i := 5) (v := .int .u8 (k1 : Int)) rfl (by kernel_rfl) (by kernel_rfl) (by kernel_rfl) (fun _ _ _ h => h) (Or.inl ⟨by rfl, fun u => (by go_simp)⟩) ?_
          refine wpAny_take (i := 6) (v := .int .i64 (k1 : Int)) rfl (by kernel_rfl) (by kernel_rfl) (by kernel_rfl) (fun _ _ _ h => h) (Or.inl ⟨by rfl, fun u => (by go_simp)⟩) ?_
          refine wpAny_take (i := 9) (v := .pointer (some ⟨b, 0, none⟩)) rfl (by kernel_rfl) (by kernel_rfl) (by kernel_rfl) (fun _ _ _ h => h) (Or.inl ⟨by rfl, fun u => (by go_simp)⟩) ?_
          refine wpAny_take (i := 10) (v := .string hx) rfl (by kernel_rfl) (by kernel_rfl) (by kernel_rfl) (fun _ _ _ h => h) (Or.inl ⟨by rfl, fun u => (by go_simp)⟩) ?_
          refine wpAny_take (i := 11) (v := .int .u8 (k2 : Int)) rfl (by kernel_rfl) (by kernel_rfl) (by kernel_rfl) (fun _ _ _ h => h) (Or.inl ⟨by rfl, fun u => (by go_simp)⟩) ?_
          refine wpAny_take (i := 12) (v := .int .i64 (k2 : Int)) rfl (by kernel_rfl) (by kernel_rfl) (by kernel_rfl) (fun _ _ _ h => h) (Or.inl ⟨by rfl, fun u => (by go_simp)⟩) ?_
          refine wpAny_take (i := 14) (v := .pointer (some ⟨b, 0, none⟩)) rfl (by kernel_rfl) (by kernel_rfl) (by kernel_rfl) (fun _ _ _ h => h) (Or.inl ⟨by rfl, fun u => (by go_simp)⟩) ?_
          refine wpAny_take (i := 15) (v := .string hx) rfl (by kernel_rfl) (by kernel_rfl) (by kernel_rfl) (fun _ _ _ h => h) (Or.inl ⟨by rfl, fun u => (by go_simp)⟩) ?_
          refine wpAny_take (i := 16) (v := .int .u8 (k3 : Int)) rfl (by kernel_rfl) (by kernel_rfl) (by kernel_rfl) (fun _ _ _ h => h) (Or.inl ⟨by rfl, fun u => (by go_simp)⟩) ?_
          refine wpAny_take (i := 17) (v := .int .i64 (k3 : Int)) rfl (by kernel_rfl) (by kernel_rfl) (by kernel_rfl) (fun _ _ _ h => h) (Or.inl ⟨by rfl, fun u => (by go_simp)⟩) ?_
          refine wpAny_ready (rs := [7]) (by kernel_rfl) (by simp) ?_
          refine AllReady.cons rfl (fun K hK => ?_) AllReady.nil
          go_simp
          go_at_call 62
          refine HTA.out.mono ?_
          rintro e w2 ⟨rfl, P2, g2⟩
          refine hK _ _ ?_
          clear hK
          refine wpAny_take (i := 8) (v := .string (p.extract 0 n0 ++ kx)) rfl (by kernel_rfl) (by kernel_rfl) (by kernel_rfl) (fun _ _ _ h => h) (Or.inl ⟨by rfl, fun u => (by go_simp)⟩) ?_
          refine wpAny_ready (rs := [13]) (by kernel_rfl) (by simp) ?_
          refine AllReady.cons rfl (fun K hK => ?_) AllReady.nil
          go_simp
          go_at_call 62
          refine (HTB.out _ P2).mono ?_
          rintro e w3 ⟨rfl, P3, g3⟩
          refine hK _ _ ?_
          clear hK
          refine wpAny_ready (rs := [18]) (by kernel_rfl) (by simp) ?_
          refine AllReady.cons rfl (fun K hK => ?_) AllReady.nil
          go_simp
          go_at_call 62
          refine (HTN.out _ (((HE1.out.drew).grown g2 hgb).grown g3 hgb) P3).mono ?_
          rintro e w4 ⟨rfl, g4⟩
          exact ⟨rfl, rfl, ((HG1.out.trans (grown_dr g2)).trans g3).trans g4⟩
        · have TN := fun (u : World) (hG : ErrG u ty pv) (h : PgR u b (lf2 t)) => NO u (lf2 t) (hd t 2) hG h (by omega)
          generalize (lf1 t).extract 0 (hd t 1) = kx at *
          generalize hd t 0 = n0 at *
          generalize hd t 1 = k1 at *
          generalize hd t 2 = k2 at *
          generalize hd t 3 = k3 at *
          generalize lf1 t = t1 at *
          generalize lf2 t = t2 at *
          generalize t.extract 0 4 = hx at *
          go_enter Tryd.func63, Tryd.ntmps63
          go_wp2_with fail
          refine T0.mono ?_
          rintro e w1 ⟨rfl, P1, g1⟩
          have HTA : Hid (Calls _ _ _ _ _) := TA _ P1.drew
          have HE1 : Hid (ErrG w1 ty pv) := G0.grown g1 hgb
          have HG1 : Hid (World.grownBy _ _ _) := grown_al g1 hbl
          have HTN : Hid _ := TN
          clear T0 TN NO TA hb P1 g1 hok
          go_wp2_with fail
          have v1 : IntKind.i64.wrap (k1 : Int) = (k1 : Int) := by rw [IntKind.wrap_i64]; omega
          have v2 : IntKind.i64.wrap (k2 : Int) = (k2 : Int) := by rw [IntKind.wrap_i64]; omega
          have v3 : IntKind.i64.wrap (k3 : Int) = (k3 : Int) := by rw [IntKind.wrap_i64]; omega
          have hc1 : ¬ 9223372036854775807 < n0 + k1 := by omega
          refine wp_region_any (by kernel_rfl) ?_
          refine wpAny_take (i := 0) (v := .string p) rfl (by kernel_rfl) (by kernel_rfl) (by kernel_rfl) (fun _ _ _ h => h) (Or.inl ⟨by rfl, fun u => (by go_simp)⟩) ?_
          refine wpAny_take (i := 1) (v := .int .i64 (n0 : Int)) rfl (by kernel_rfl) (by kernel_rfl) (by kernel_rfl) (fun _ _ _ h => h) (Or.inl ⟨by rfl, fun u => (by go_simp)⟩) ?_
          refine wpAny_take (i := 2) (v := .string (p.extract 0 n0)) rfl (by kernel_rfl) (by kernel_rfl) (by kernel_rfl) (fun _ _ _ h => h) (Or.inl ⟨by rfl, fun u => (by go_simp)⟩) ?_
          refine wpAny_take (i := 3) (v := .pointer (some ⟨b, 0, none⟩)) rfl (by kernel_rfl) (by kernel_rfl) (by kernel_rfl) (fun _ _ _ h => h) (Or.inl ⟨by rfl, fun u => (by go_simp)⟩) ?_
          refine wpAny_take (i := 4) (v := .string hx) rfl (by kernel_rfl) (by kernel_rfl) (by kernel_rfl) (fun _ _ _ h => h) (Or.inl ⟨by rfl, fun u => (by go_simp)⟩) ?_
          refine wpAny_take (i := 5) (v := .int .u8 (k1 : Int)) rfl (by kernel_rfl) (by kernel_rfl) (by kernel_rfl) (fun _ _ _ h => h) (Or.inl ⟨by rfl, fun u => (by go_simp)⟩) ?_
          refine wpAny_take (i := 6) (v := .int .i64 (k1 : Int)) rfl (by kernel_rfl) (by kernel_rfl) (by kernel_rfl) (fun _ _ _ h => h) (Or.inl ⟨by rfl, fun u => (by go_simp)⟩) ?_
          refine wpAny_take (i := 9) (v := .pointer (some ⟨b, 0, none⟩)) rfl (by kernel_rfl) (by kernel_rfl) (by kernel_rfl) (fun _ _ _ h => h) (Or.inl ⟨by rfl, fun u => (by go_simp)⟩) ?_
          refine wpAny_take (i := 10) (v := .string hx) rfl (by kernel_rfl) (by kernel_rfl) (by kernel_rfl) (fun _ _ _ h => h) (Or.inl ⟨by rfl, fun u => (by go_simp)⟩) ?_
          refine wpAny_take (i := 11) (v := .int .u8 (k2 : Int)) rfl (by kernel_rfl) (by kernel_rfl) (by kernel_rfl) (fun _ _ _ h => h) (Or.inl ⟨by rfl, fun u => (by go_simp)⟩) ?_
          refine wpAny_take (i := 12) (v := .int .i64 (k2 : Int)) rfl (by kernel_rfl) (by kernel_rfl) (by kernel_rfl) (fun _ _ _ h => h) (Or.inl ⟨by rfl, fun u => (by go_simp)⟩) ?_
          refine wpAny_take (i := 14) (v := .pointer (some ⟨b, 0, none⟩)) rfl (by kernel_rfl) (by kernel_rfl) (by kernel_rfl) (fun _ _ _ h => h) (Or.inl ⟨by rfl, fun u => (by go_simp)⟩) ?_
          refine wpAny_take (i := 15) (v := .string hx) rfl (by kernel_rfl) (by kernel_rfl) (by kernel_rfl) (fun _ _ _ h => h) (Or.inl ⟨by rfl, fun u => (by go_simp)⟩) ?_
          refine wpAny_take (i := 16) (v := .int .u8 (k3 : Int)) rfl (by kernel_rfl) (by kernel_rfl) (by kernel_rfl) (fun _ _ _ h => h) (Or.inl ⟨by rfl, fun u => (by go_simp)⟩) ?_
          refine wpAny_take (i := 17) (v := .int .i64 (k3 : Int)) rfl (by kernel_rfl) (by kernel_rfl) (by kernel_rfl) (fun _ _ _ h => h) (Or.inl ⟨by rfl, fun u => (by go_simp)⟩) ?_
          refine wpAny_ready (rs := [7]) (by kernel_rfl) (by simp) ?_
          refine AllReady.cons rfl (fun K hK => ?_) AllReady.nil
          go_simp
          go_at_call 62
          refine HTA.out.mono ?_
          rintro e w2 ⟨rfl, P2, g2⟩
          refine hK _ _ ?_
          clear hK
          refine wpAny_take (i := 8) (v := .string (p.extract 0 n0 ++ kx)) rfl (by kernel_rfl) (by kernel_rfl) (by kernel_rfl) (fun _ _ _ h => h) (Or.inl ⟨by rfl, fun u => (by go_simp)⟩) ?_
          refine wpAny_ready (rs := [13]) (by kernel_rfl) (by simp) ?_
          refine AllReady.cons rfl (fun K hK => ?_) AllReady.nil
          go_simp
          go_at_call 62
          refine (HTN.out _ ((HE1.out.drew).grown g2 hgb) P2).mono ?_
          rintro e w3 ⟨rfl, g3⟩
          exact ⟨rfl, rfl, (HG1.out.trans (grown_dr g2)).trans g3⟩
      · have TN := fun (u : World) (hG : ErrG u ty pv) (h : PgR u b (lf1 t)) => NO u (lf1 t) (hd t 1) hG h (by omega)
        generalize hd t 0 = n0 at *
        generalize hd t 1 = k1 at *
        generalize hd t 2 = k2 at *
        generalize hd t 3 = k3 at *
        generalize lf1 t = t1 at *
        generalize t.extract 0 4 = hx at *
        go_enter Tryd.func63, Tryd.ntmps63
        go_wp2_with fail
        refine T0.mono ?_
        rintro e w1 ⟨rfl, P1, g1⟩
        have HTN : Hid (Calls _ _ _ _ _) := TN _ (G0.grown g1 hgb).drew P1.drew
        have HG1 : Hid (World.grownBy _ _ _) := grown_al g1 hbl
        clear T0 TN NO hb P1 g1 hok
        go_wp2_with fail
        have v1 : IntKind.i64.wrap (k1 : Int) = (k1 : Int) := by rw [IntKind.wrap_i64]; omega
        have v2 : IntKind.i64.wrap (k2 : Int) = (k2 : Int) := by rw [IntKind.wrap_i64]; omega
        have v3 : IntKind.i64.wrap (k3 : Int) = (k3 : Int) := by rw [IntKind.wrap_i64]; omega
        refine wp_region_any (by kernel_rfl) ?_
        refine wpAny_take (i := 0) (v := .string p) rfl (by kernel_rfl) (by kernel_rfl) (by kernel_rfl) (fun _ _ _ h => h) (Or.inl ⟨by rfl, fun u => (by go_simp)⟩) ?_
        refine wpAny_take (i := 1) (v := .int .i64 (n0 : Int)) rfl (by kernel_rfl) (by kernel_rfl) (by kernel_rfl) (fun _ _ _ h => h) (Or.inl ⟨by rfl, fun u => (by go_simp)⟩) ?_
        refine wpAny_take (i := 2) (v := .string (p.extract 0 n0)) rfl (by kernel_rfl) (by kernel_rfl) (by kernel_rfl) (fun _ _ _ h => h) (Or.inl ⟨by rfl, fun u => (by go_simp)⟩) ?_
        refine wpAny_take (i := 3) (v := .pointer (some ⟨b, 0, none⟩)) rfl (by kernel_rfl) (by kernel_rfl) (by kernel_rfl) (fun _ _ _ h => h) (Or.inl ⟨by rfl, fun u => (by go_simp)⟩) ?_
        refine wpAny_take (i := 4) (v := .string hx) rfl (by kernel_rfl) (by kernel_rfl) (by kernel_rfl) (fun _ _ _ h => h) (Or.inl ⟨by rfl, fun u => (by go_simp)⟩) ?_
        refine wpAny_take (i := 5) (v := .int .u8 (k1 : Int)) rfl (by kernel_rfl) (by kernel_rfl) (by kernel_rfl) (fun _ _ _ h => h) (Or.inl ⟨by rfl, fun u => (by go_simp)⟩) ?_
        refine wpAny_take (i := 6) (v := .int .i64 (k1 : Int)) rfl (by kernel_rfl) (by kernel_rfl) (by kernel_rfl) (fun _ _ _ h => h) (Or.inl ⟨by rfl, fun u => (by go_simp)⟩) ?_
        refine wpAny_take (i := 9) (v := .pointer (some ⟨b, 0, none⟩)) rfl (by kernel_rfl) (by kernel_rfl) (by kernel_rfl) (fun _ _ _ h => h) (Or.inl ⟨by rfl, fun u => (by go_simp)⟩) ?_
        refine wpAny_take (i := 10) (v := .string hx) rfl (by kernel_rfl) (by kernel_rfl) (by kernel_rfl) (fun _ _ _ h => h) (Or.inl ⟨by rfl, fun u => (by go_simp)⟩) ?_
        refine wpAny_take (i := 11) (v := .int .u8 (k2 : Int)) rfl (by kernel_rfl) (by kernel_rfl) (by kernel_rfl) (fun _ _ _ h => h) (Or.inl ⟨by rfl, fun u => (by go_simp)⟩) ?_
        refine wpAny_take (i := 12) (v := .int .i64 (k2 : Int)) rfl (by kernel_rfl) (by kernel_rfl) (by kernel_rfl) (fun _ _ _ h => h) (Or.inl ⟨by rfl, fun u => (by go_simp)⟩) ?_
        refine wpAny_take (i := 14) (v := .pointer (some ⟨b, 0, none⟩)) rfl (by kernel_rfl) (by kernel_rfl) (by kernel_rfl) (fun _ _ _ h => h) (Or.inl ⟨by rfl, fun u => (by go_simp)⟩) ?_
        refine wpAny_take (i := 15) (v := .string hx) rfl (by kernel_rfl) (by kernel_rfl) (by kernel_rfl) (fun _ _ _ h => h) (Or.inl ⟨by rfl, fun u => (by go_simp)⟩) ?_
        refine wpAny_take (i := 16) (v := .int .u8 (k3 : Int)) rfl (by kernel_rfl) (by kernel_rfl) (by kernel_rfl) (fun _ _ _ h => h) (Or.inl ⟨by rfl, fun u => (by go_simp)⟩) ?_
        refine wpAny_take (i := 17) (v := .int .i64 (k3 : Int)) rfl (by kernel_rfl) (by kernel_rfl) (by kernel_rfl) (fun _ _ _ h => h) (Or.inl ⟨by rfl, fun u => (by go_simp)⟩) ?_
        refine wpAny_ready (rs := [7]) (by kernel_rfl) (by simp) ?_
        refine AllReady.cons rfl (fun K hK => ?_) AllReady.nil
        go_simp
        go_at_call 62
        refine HTN.out.mono ?_
        rintro e w2 ⟨rfl, g2⟩
        exact ⟨rfl, rfl, HG1.out.trans (grown_dr g2)⟩
    · have hn8 : ¬ (hd t 0 : Int) ≤ (p.size : Int) := by omega
      generalize hd t 0 = n0 at *
      clear x1 x2 x3 hok
      go_enter Tryd.func63, Tryd.ntmps63
      go_wp2_with fail
      refine T0.mono ?_
      rintro e w1 ⟨rfl, P1, g1⟩
      have c1 : w1.cell? ⟨0, 0, none⟩ = some (.iface ty pv) := G0.grown g1 hgb
      have HG : Hid (w.grownBy w1 (some b)) := grown_al g1 hbl
      clear T0 P1 g1
      go_wp2
      exact ⟨rfl, rfl, HG.out⟩
  · have T0 : Calls Tryd.prog 62 #[.pointer (some ⟨b, 0, none⟩), .int .i64 4] _ _ := take_noG (n := 4) (hg.alloc (.cells #[.string ⟨#[]⟩, .string ⟨#[]⟩, .string ⟨#[]⟩] 32)) (hb.alloc (.cells #[.string ⟨#[]⟩, .string ⟨#[]⟩, .string ⟨#[]⟩] 32)) (by omega)
    go_enter Tryd.func63, Tryd.ntmps63
    go_wp2_with fail
    refine T0.mono ?_
    rintro e w1 ⟨rfl, g1⟩
    exact ⟨rfl, rfl, grown_al g1 hbl⟩
end Go.Proofs.YtbgomhgohphglaaDoor

namespace Go.Proofs.YtbgomhgohphglaaDoor
open Go.RowKit

set_option maxRecDepth 100000 in
set_option maxHeartbeats 400000 in
theorem in_any (x a b : Int) (w : World) : Calls Tryd.prog 85 #[.int .i64 x, .int .i64 a, .int .i64 b] w fun e w' => e = .returned (.bool (decide (a ≤ x) && decide (x ≤ b))) ∧ w' = w := by
  by_cases h : a ≤ x
  · go_enter Tryd.func85, Tryd.ntmps85
    go_wp2
    go_ret
    rw [decide_eq_true h]
    exact ⟨rfl, rfl⟩
  · go_enter Tryd.func85, Tryd.ntmps85
    go_wp2
    go_ret
    rw [decide_eq_false (show ¬ a ≤ x by omega)]
    exact ⟨rfl, rfl⟩

theorem hd_ext {s : ByteArray} {a i : Nat} (h : a + i < s.size) : hd (s.extract a s.size) i = hd s (a + i) := by
  unfold hd
  rw [bAt_ext s (Nat.le_refl _) h]

theorem ext_sz (s : ByteArray) (a : Nat) : (s.extract a s.size).size = s.size - a := ext_size s (Nat.le_refl _)

/-- A row at a place of a text. -/
theorem row_at {s p : ByteArray} {a : Nat} (h : a + 4 + hd s (a + 1) + hd s (a + 2) + hd s (a + 3) ≤ s.size) :
    rowOf p (s.extract a s.size) = ⟨p.extract 0 (hd s a) ++ s.extract (a + 4) (a + 4 + hd s (a + 1)), s.extract (a + 4 + hd s (a + 1)) (a + 4 + hd s (a + 1) + hd s (a + 2)), s.extract (a + 4 + hd s (a + 1) + hd s (a + 2)) (a + 4 + hd s (a + 1) + hd s (a + 2) + hd s (a + 3))⟩ ∧
      restOf (s.extract a s.size) = s.extract (a + 4 + hd s (a + 1) + hd s (a + 2) + hd s (a + 3)) s.size := by
  have e0 : hd (s.extract a s.size) 0 = hd s a := hd_ext (by omega)
  have e1 : hd (s.extract a s.size) 1 = hd s (a + 1) := hd_ext (by omega)
  have e2 : hd (s.extract a s.size) 2 = hd s (a + 2) := hd_ext (by omega)
  have e3 : hd (s.extract a s.size) 3 = hd s (a + 3) := hd_ext (by omega)
  unfold rowOf restOf
  rw [e0, e1, e2, e3, ext_sz]
  generalize hd s (a + 1) = k1 at *
  generalize hd s (a + 2) = k2 at *
  generalize hd s (a + 3) = k3 at *
  rw [ext_ext s (Nat.le_refl _) (by omega), ext_ext s (Nat.le_refl _) (by omega), ext_ext s (Nat.le_refl _) (by omega), ext_ext s (Nat.le_refl _) (by omega)]
  have q1 : a + (4 + k1) = a + 4 + k1 := by omega
  have q2 : a + (4 + k1 + k2) = a + 4 + k1 + k2 := by omega
  have q3 : a + (4 + k1 + k2 + k3) = a + 4 + k1 + k2 + k3 := by omega
  have q4 : a + (s.size - a) = s.size := by omega
  rw [q1, q2, q3, q4]
  exact ⟨rfl, rfl⟩

theorem ok_at {s p : ByteArray} {a : Nat} (ha : a ≤ s.size) : okRow p (s.extract a s.size) = (decide (a + 4 ≤ s.size) && decide (hd s a ≤ p.size) && decide (a + 4 + hd s (a + 1) + hd s (a + 2) + hd s (a + 3) ≤ s.size)) := by
  unfold okRow
  rw [ext_sz]
  by_cases h : a + 4 ≤ s.size
  · have e0 : hd (s.extract a s.size) 0 = hd s a := hd_ext (by omega)
    have e1 : hd (s.extract a s.size) 1 = hd s (a + 1) := hd_ext (by omega)
    have e2 : hd (s.extract a s.size) 2 = hd s (a + 2) := hd_ext (by omega)
    have e3 : hd (s.extract a s.size) 3 = hd s (a + 3) := hd_ext (by omega)
    rw [e0, e1, e2, e3]
    congr 1
    · congr 1
      rw [decide_eq_decide]; omega
    · rw [decide_eq_decide]; omega
  · rw [decide_eq_false h, decide_eq_false (show ¬ 4 ≤ s.size - a by omega)]
    rfl

/-- What has been read ahead of row k. -/
def SrRel (W : World) (s : ByteArray) (v4 v5 v6 v7 : Value) (wr : World) : Prop :=
  ∃ (k a : Nat) (p : ByteArray) (l : List Rw), k ≤ hd s 2 ∧ v7 = .int .i64 (k : Int) ∧ v5 = .int .i64 (a : Int) ∧ a ≤ s.size ∧ v6 = .string p ∧ p.size ≤ 510 ∧ l.length = k ∧ Rws wr W.heap.size v4 l ∧
    (rdF (hd s 2 - k) p (s.extract a s.size)).map (l ++ ·) = rdF (hd s 2) ⟨#[]⟩ (s.extract 3 s.size) ∧ Below W.heap.size W wr

theorem index_hd (s : ByteArray) {a : Nat} (i : Nat) (h : a + i < s.size) (u : World) : (Instr.index 9 (.string s) (.int .i64 ((a : Int) + (i : Int)))).run Tryd.prog u = .ok (.int .u8 (hd s (a + i) : Int)) u := by
  have := index_str s (a + i) h u
  rw [Int.natCast_add] at this
  exact this

theorem slice_at (s : ByteArray) (i j : Int) (A B : Nat) (h0 : i = (A : Int)) (h1 : j = (B : Int)) (h2 : A ≤ B) (h3 : B ≤ s.size) (u : World) : (Instr.slice 9 (.string s) (some (.int .i64 i)) (some (.int .i64 j)) none).run Tryd.prog u = .ok (.string (s.extract A B)) u := by
  subst h0
  subst h1
  rw [run_slice_string (h := Tryd.underlying9) (h0 := by omega) (h1 := by omega) (h2 := by omega)]
  rfl

theorem info_rwS : (Tryd.prog.info? 32).map (fun i => (i.zero, i.size, i.bytes)) = some (some (.agg #[.string ⟨#[]⟩, .string ⟨#[]⟩, .string ⟨#[]⟩]), 3, 48) := by kernel_rfl

set_option maxRecDepth 100000 in
set_option maxHeartbeats 4000000 in
theorem specRead_any (s : ByteArray) (w : World) (hs : s.size ≤ 1048576) :
    Calls Tryd.prog 77 #[.string s] w fun e w' => ∃ v, e = .returned (.tuple #[v, .int .i64 (codeP s)]) ∧ Rws w' w.heap.size v (readP s) ∧ Below w.heap.size w w' := by
  have IN := in_any (s.size : Int) 3 300 w
  have hnil : Hid (Rws w w.heap.size (.slice none 0 0) []) := World.ownsRow_nil _ _ _ _
  cases hlo : lenOk s
  · have hc : codeP s = 1 := by unfold codeP; rw [hlo]; rfl
    have hr : readP s = [] := by unfold readP; rw [hlo]; rfl
    have hd0 : (decide ((3 : Int) ≤ (s.size : Int)) && decide ((s.size : Int) ≤ 300)) = false := by
      unfold lenOk at hlo
      rw [← hlo]
      congr 1
      · rw [decide_eq_decide]; omega
      · rw [decide_eq_decide]; omega
    rw [hd0] at IN
    rw [hc, hr]
    clear hlo hc hr hd0
    go_enter Tryd.func77, Tryd.ntmps77
    go_wp2_with fail
    refine IN.mono ?_
    rintro e w1 ⟨rfl, rfl⟩
    clear IN
    go_wp2
    go_ret2
    exact ⟨_, rfl, hnil.out, Below.refl _ _⟩
  · have hlen : 3 ≤ s.size ∧ s.size ≤ 300 := by simp [lenOk] at hlo; exact hlo
    obtain ⟨h3, h300⟩ := hlen
    have hd1 : (decide ((3 : Int) ≤ (s.size : Int)) && decide ((s.size : Int) ≤ 300)) = true := by rw [decide_eq_true (by omega), decide_eq_true (by omega)]; rfl
    rw [hd1] at IN
    have x0 : ∀ u : World, (Instr.index 9 (.string s) (.int .i64 0)).run Tryd.prog u = .ok (.int .u8 (hd s 0 : Int)) u := index_str s 0 (by omega)
    have x1 : ∀ u : World, (Instr.index 9 (.string s) (.int .i64 1)).run Tryd.prog u = .ok (.int .u8 (hd s 1 : Int)) u := index_str s 1 (by omega)
    cases hmk : markOk s
    · have hc : codeP s = 2 := by unfold codeP; rw [hlo, hmk]; rfl
      have hr : readP s = [] := by unfold readP; rw [hlo, hmk]; rfl
      rw [hc, hr]
      by_cases h80 : hd s 0 = 80
      · have h71 : ¬ hd s 1 = 71 := fun e => by simp [markOk, h80, e] at hmk
        have n71 : ¬ (hd s 1 : Int) = 71 := by omega
        rw [h80] at x0
        clear hlo hc hr hd1 hmk
        go_enter Tryd.func77, Tryd.ntmps77
        go_wp2_with fail
        refine IN.mono ?_
        rintro e w1 ⟨rfl, rfl⟩
        clear IN
        go_wp2
        go_ret2
        exact ⟨_, rfl, hnil.out, Below.refl _ _⟩
      · have n80 : ¬ (hd s 0 : Int) = 80 := by omega
        clear hlo hc hr hd1 hmk
        go_enter Tryd.func77, Tryd.ntmps77
        go_wp2_with fail
        refine IN.mono ?_
        rintro e w1 ⟨rfl, rfl⟩
        clear IN
        go_wp2
        go_ret2
        exact ⟨_, rfl, hnil.out, Below.refl _ _⟩
    · have hm : hd s 0 = 80 ∧ hd s 1 = 71 := by simp [markOk] at hmk; exact hmk
      have hc : codeP s = if (readL s).isSome then 0 else 3 := by unfold codeP; rw [hlo, hmk]; rfl
      have hr : readP s = (readL s).getD [] := by unfold readP; rw [hlo, hmk]; rfl
      rw [hm.1] at x0
      rw [hm.2] at x1
      have x2 : ∀ u : World, (Instr.index 9 (.string s) (.int .i64 2)).run Tryd.prog u = .ok (.int .u8 (hd s 2 : Int)) u := index_str s 2 (by omega)
      have HC : Hid _ := hc
      have HRP : Hid _ := hr
      have HNO : Hid (rdF (hd s 2) ⟨#[]⟩ (s.extract 3 s.size) = none → codeP s = 3 ∧ readP s = []) := fun h => by
        have e : readL s = none := by unfold readL; rw [h]
        rw [hc, hr, e]
        exact ⟨rfl, rfl⟩
      have HYES : Hid (∀ l, rdF (hd s 2) ⟨#[]⟩ (s.extract 3 s.size) = some l → (isPage s l = true → codeP s = 0 ∧ readP s = l) ∧ (isPage s l = false → codeP s = 3 ∧ readP s = [])) := fun l h => by
        have e : readL s = if isPage s l then some l else none := by unfold readL; rw [h]
        refine ⟨fun hp => ?_, fun hp => ?_⟩
        · rw [hc, hr, e, hp]; exact ⟨rfl, rfl⟩
        · rw [hc, hr, e, hp]; exact ⟨rfl, rfl⟩
      have l2 := hd_lt s 2
      have v2 : IntKind.i64.wrap (hd s 2 : Int) = (hd s 2 : Int) := by rw [IntKind.wrap_i64]; omega
      obtain ⟨i0, hi0, hz0, hs0, hy0⟩ := info_parts info_rwS
      generalize codeP s = cd at *
      generalize readP s = rp at *
      clear hlo hd1 hmk hm hc hr HC HRP
      go_enter Tryd.func77, Tryd.ntmps77
      go_wp2_with fail
      refine IN.mono ?_
      rintro e w1 ⟨rfl, rfl⟩
      clear IN
      go_wp2
      go_loopw [4, 5, 6, 7] (fun v4 v5 v6 v7 wr => SrRel w1 s v4 v5 v6 v7 wr) (fun _ _ _ v7 _ => hd s 2 - (intOf v7).toNat)
      case atStart => exact ⟨0, 3, ⟨#[]⟩, [], Nat.zero_le _, rfl, rfl, h3, rfl, Nat.zero_le _, rfl, hnil.out, by rw [Nat.sub_zero]; cases rdF (hd s 2) ⟨#[]⟩ (s.extract 3 s.size) <;> rfl, Below.refl _ _⟩
      case round =>
        obtain ⟨k, a, p, l, hk, rfl, rfl, ha, rfl, hp, hl, hR, hF, hb⟩ := hrel
        have HRW : Hid (Rws _ _ _ _) := hR
        have HF : Hid _ := hF
        have HB : Hid (Below _ _ _) := hb
        obtain ⟨ra, rc, rfl⟩ := rw_form hR
        have HLN : Hid (l.length = k) := hl
        have hl9 : l.length ≤ 255 := by omega
        clear hR hF hb hl
        by_cases hlt : k < hd s 2
        · have hk8 : (k : Int) < (hd s 2 : Int) := by omega
          have hsub : hd s 2 - k = (hd s 2 - (k + 1)) + 1 := by omega
          have hokA := ok_at (p := p) ha
          by_cases h4 : a + 4 ≤ s.size
          · have y0 : ∀ u : World, (Instr.index 9 (.string s) (.int .i64 (a : Int))).run Tryd.prog u = .ok (.int .u8 (hd s a : Int)) u := index_str s a (by omega)
            have y1 : ∀ u : World, (Instr.index 9 (.string s) (.int .i64 ((a : Int) + 1))).run Tryd.prog u = .ok (.int .u8 (hd s (a + 1) : Int)) u := index_hd s 1 (by omega)
            have y2 : ∀ u : World, (Instr.index 9 (.string s) (.int .i64 ((a : Int) + 2))).run Tryd.prog u = .ok (.int .u8 (hd s (a + 2) : Int)) u := index_hd s 2 (by omega)
            have y3 : ∀ u : World, (Instr.index 9 (.string s) (.int .i64 ((a : Int) + 3))).run Tryd.prog u = .ok (.int .u8 (hd s (a + 3) : Int)) u := index_hd s 3 (by omega)
            have m0 := hd_lt s a
            have m1 := hd_lt s (a + 1)
            have m2 := hd_lt s (a + 2)
            have m3 := hd_lt s (a + 3)
            have u0 : IntKind.i64.wrap (hd s a : Int) = (hd s a : Int) := by rw [IntKind.wrap_i64]; omega
            have u1 : IntKind.i64.wrap (hd s (a + 1) : Int) = (hd s (a + 1) : Int) := by rw [IntKind.wrap_i64]; omega
            have u2 : IntKind.i64.wrap (hd s (a + 2) : Int) = (hd s (a + 2) : Int) := by rw [IntKind.wrap_i64]; omega
            have u3 : IntKind.i64.wrap (hd s (a + 3) : Int) = (hd s (a + 3) : Int) := by rw [IntKind.wrap_i64]; omega
            have n4 : (a : Int) + 4 ≤ (s.size : Int) := by omega
            have hRA := row_at (s := s) (p := p) (a := a)
            rw [decide_eq_true h4, Bool.true_and] at hokA
            generalize hd s a = n0 at *
            generalize hd s (a + 1) = k1 at *
            generalize hd s (a + 2) = k2 at *
            generalize hd s (a + 3) = k3 at *
            by_cases hn : n0 ≤ p.size
            · have hn8 : (n0 : Int) ≤ (p.size : Int) := by omega
              rw [decide_eq_true hn, Bool.true_and] at hokA
              by_cases hD : a + 4 + k1 + k2 + k3 ≤ s.size
              · have nD : (a : Int) + 4 + (k1 : Int) + (k2 : Int) + (k3 : Int) ≤ (s.size : Int) := by omega
                obtain ⟨hr1, hr2⟩ := hRA hD
                have HFN : Hid ((rdF (hd s 2 - (k + 1)) (rowOf p (s.extract a s.size)).key (restOf (s.extract a s.size))).map ((l ++ [rowOf p (s.extract a s.size)]) ++ ·) = rdF (hd s 2) ⟨#[]⟩ (s.extract 3 s.size)) := by
                  show _ = _
                  rw [← HF.out, hsub, rdF, hokA, decide_eq_true hD, if_pos rfl]
                  cases rdF (hd s 2 - (k + 1)) (rowOf p (s.extract a s.size)).key (restOf (s.extract a s.size)) <;> simp
                rw [hr1, hr2] at HFN
                have sl1 : ∀ u : World, (Instr.slice 9 (.string s) (some (.int .i64 ((a : Int) + 4))) (some (.int .i64 ((a : Int) + 4 + (k1 : Int)))) none).run Tryd.prog u = .ok (.string (s.extract (a + 4) (a + 4 + k1))) u := fun u => slice_at s _ _ _ _ (by omega) (by omega) (by omega) (by omega) u
                have sl2 : ∀ u : World, (Instr.slice 9 (.string s) (some (.int .i64 ((a : Int) + 4 + (k1 : Int)))) (some (.int .i64 ((a : Int) + 4 + (k1 : Int) + (k2 : Int)))) none).run Tryd.prog u = .ok (.string (s.extract (a + 4 + k1) (a + 4 + k1 + k2))) u := fun u => slice_at s _ _ _ _ (by omega) (by omega) (by omega) (by omega) u
                have sl3 : ∀ u : World, (Instr.slice 9 (.string s) (some (.int .i64 ((a : Int) + 4 + (k1 : Int) + (k2 : Int)))) (some (.int .i64 ((a : Int) + 4 + (k1 : Int) + (k2 : Int) + (k3 : Int)))) none).run Tryd.prog u = .ok (.string (s.extract (a + 4 + k1 + k2) (a + 4 + k1 + k2 + k3))) u := fun u => slice_at s _ _ _ _ (by omega) (by omega) (by omega) (by omega) u
                have z1 : (s.extract (a + 4) (a + 4 + k1)).size = k1 := by rw [ext_size s (by omega)]; omega
                have z0 : (p.extract 0 n0).size = n0 := ext_size p hn
                have hkz : (p.extract 0 n0 ++ s.extract (a + 4) (a + 4 + k1)).size ≤ 510 := by rw [ByteArray.size_append, z0, z1]; omega
                have HKZ : Hid _ := hkz
                generalize s.extract (a + 4) (a + 4 + k1) = e1 at *
                generalize s.extract (a + 4 + k1) (a + 4 + k1 + k2) = e2 at *
                generalize s.extract (a + 4 + k1 + k2) (a + 4 + k1 + k2 + k3) = e3 at *
                have hc1 : ¬ 9223372036854775807 < n0 + k1 := by omega
                have h1a : ∀ u : World, u.heap = (wr.alloc (.cells #[.string (p.extract 0 n0 ++ e1), .string e2, .string e3] 32)).heap → u.ownsRow w1.heap.size 32 3 (.slice ra l.length rc) l.length (rwAll l) := fun u hu => by
                  have := HRW.out.below ((Below.refl wr.heap.size wr).alloc (Nat.le_refl _) (.cells #[.string (p.extract 0 n0 ++ e1), .string e2, .string e3] 32))
                  unfold Rws World.ownsRow at this
                  unfold World.ownsRow
                  rw [hu]; exact this
                have hwz := HB.out.size
                clear HNO HYES HF hokA hr1 hr2 hRA hkz x0 x1
                go_upto_region 20 with fail
                clear y0 y1 y2 y3 x2
                go_cut [4] from 25 to 102 (fun v4 wx => Rws wx w1.heap.size v4 (l ++ [⟨p.extract 0 n0 ++ e1, e2, e3⟩]) ∧ Below w1.heap.size w1 wx)
                case first =>
                  go_region_law (refine step_append_lies _ rfl (.tmp 74) (.tmp 92) 23 rfl w1.heap.size 32 i0 _ 3 48 Tryd.underlying23 hi0 hz0 hs0 hy0 rfl (by decide) _ _ _ rfl (h1a _ rfl) ⟨wr.heap.size, 0, none⟩ 1 1 [.string (p.extract 0 n0 ++ e1), .string e2, .string e3] rfl rfl (cells3_at _ _ _ _ _ _ rfl) (fun z hz => by simp at hz; rcases hz with rfl | rfl | rfl <;> rfl) (by omega) (by unfold maxLen; omega) (by omega) (by simp; omega) (wr.heap.size + 1) (by simp) ?_; intro g9 cap9 w9 ho9 hg9 _ _)
                  all_goals
                    have hK : Rws w9 w1.heap.size (.slice (some ⟨g9, 0, none⟩) (l.length + 1) cap9) (l ++ [⟨p.extract 0 n0 ++ e1, e2, e3⟩]) ∧ Below w1.heap.size w1 w9 := ⟨rw_snoc ho9, Below.grown (HB.out.alloc HB.out.size _) (grown_heap6 hg9 rfl rfl rfl rfl) (by simp; omega) (fun j hj => (World.ownsRow.lt HRW.out j hj).1)⟩
                    go_wp2_with fail
                    go_meet
                    case rel => exact hK
                case rest =>
                  obtain ⟨hR9, hB9⟩ := hcut
                  have HR9 : Hid (Rws _ _ _ _) := hR9
                  have HB9 : Hid (Below w1.heap.size w1 wc) := hB9
                  clear hR9 hB9 h1a HRW HB
                  go_wp2
                  go_quiet (fail)
                  go_wp2
                  exact ⟨⟨k + 1, a + 4 + k1 + k2 + k3, _, _, hlt, by go_num, by go_num, hD, rfl, HKZ.out, by rw [List.length_append, HLN.out]; rfl, HR9.out.below ⟨rfl, rfl, rfl, Nat.le_refl _, fun _ _ => rfl⟩, HFN.out, ⟨HB9.out.os, HB9.out.tape, HB9.out.output, HB9.out.size, HB9.out.block⟩⟩, by simp [intOf]; omega⟩
              · have nD : ¬ (a : Int) + 4 + (k1 : Int) + (k2 : Int) + (k3 : Int) ≤ (s.size : Int) := by omega
                have hno := HNO.out (by rw [← HF.out, hsub, rdF, hokA, decide_eq_false hD]; rfl)
                have HNN : Hid _ := hno
                clear HNO HYES HF hokA hno hRA
                go_wp2
                go_ret2
                rw [HNN.out.1, HNN.out.2]
                exact ⟨_, rfl, World.ownsRow_nil _ _ _ _, HB.out⟩
            · have nn8 : ¬ (n0 : Int) ≤ (p.size : Int) := by omega
              have hno := HNO.out (by rw [← HF.out, hsub, rdF, hokA, decide_eq_false hn]; rfl)
              have HNN : Hid _ := hno
              clear HNO HYES HF hokA hno hRA
              go_wp2
              go_ret2
              rw [HNN.out.1, HNN.out.2]
              exact ⟨_, rfl, World.ownsRow_nil _ _ _ _, HB.out⟩
          · have n4 : ¬ (a : Int) + 4 ≤ (s.size : Int) := by omega
            have hno := HNO.out (by rw [← HF.out, hsub, rdF, hokA, decide_eq_false h4]; rfl)
            have HNN : Hid _ := hno
            clear HNO HYES HF hokA hno
            go_wp2
            go_ret2
            rw [HNN.out.1, HNN.out.2]
            exact ⟨_, rfl, World.ownsRow_nil _ _ _ _, HB.out⟩
        · have hkz : k = hd s 2 := by omega
          have hsome : rdF (hd s 2) ⟨#[]⟩ (s.extract 3 s.size) = some l := by rw [← HF.out, hkz, Nat.sub_self]; simp [rdF]
          obtain ⟨hyes, hnop⟩ := HYES.out l hsome
          have nk : ¬ (k : Int) < (hd s 2 : Int) := by omega
          have hsl := rws_sl HRW.out
          have GR := specGR_any (cap := rc) hsl (by omega)
          clear hsome HNO HYES HF HLN hkz x0 x1
          by_cases h0 : l.length = 0
          · have hno := hnop (by unfold isPage; rw [h0]; rfl)
            have HNN : Hid _ := hno
            have e0 : (l.length : Int) = 0 := by omega
            clear hyes hnop hno GR hsl h0
            go_wp2
            go_ret2
            rw [HNN.out.1, HNN.out.2]
            exact ⟨_, rfl, World.ownsRow_nil _ _ _ _, HB.out⟩
          · have hn0 : ((l.length : Int) == 0) = false := by rw [beq_eq_false_iff_ne]; omega
            have hb0 : (l.length == 0) = false := by simpa using h0
            cases hg : goodR l
            · have hno := hnop (by unfold isPage; rw [hg, Bool.and_false]; rfl)
              have HNN : Hid _ := hno
              rw [hg] at GR
              clear hyes hnop hno hsl h0 hb0 hg
              go_wp2_with fail
              refine GR.mono ?_
              rintro e w2 ⟨rfl, b2⟩
              clear GR
              go_wp2
              go_ret2
              rw [HNN.out.1, HNN.out.2]
              exact ⟨_, rfl, World.ownsRow_nil _ _ _ _, HB.out.trans (b2.mono HB.out.size)⟩
            · have hB := goodR_RwB hg
              have PG := fun (u : World) (hu : Below wr.heap.size wr u) => specPage_any (cap := rc) (hsl.below hu (Nat.le_refl _)) hB
              rw [hg] at GR
              by_cases hpg : byT (pageI l) = s
              · have hy := hyes (by unfold isPage; rw [hb0, hg, decide_eq_true hpg]; rfl)
                have HNN : Hid _ := hy
                rw [hpg] at PG
                clear hyes hnop hy hsl h0 hb0 hg hB hpg
                go_wp2_with fail
                refine GR.mono ?_
                rintro e w2 ⟨rfl, b2⟩
                have PG2 := PG _ b2
                clear GR PG
                go_wp2_with fail
                refine PG2.mono ?_
                rintro e w3 ⟨rfl, b3⟩
                have HB3 : Hid (Below w1.heap.size w1 w3) := (HB.out.trans (b2.mono HB.out.size)).trans (b3.mono (HB.out.trans (b2.mono HB.out.size)).size)
                have HR3 : Hid (Rws w3 w1.heap.size (.slice ra l.length rc) l) := (HRW.out.below b2).below b3
                clear PG2 b2 b3
                go_wp2
                go_ret2
                rw [HNN.out.1, HNN.out.2]
                exact ⟨_, rfl, HR3.out, HB3.out⟩
              · have hno := hnop (by unfold isPage; rw [decide_eq_false hpg, Bool.and_false])
                have HNN : Hid _ := hno
                generalize byT (pageI l) = pq at *
                have hne := ne_list6 hpg
                clear hyes hnop hno hsl h0 hb0 hg hB hpg
                go_wp2_with fail
                refine GR.mono ?_
                rintro e w2 ⟨rfl, b2⟩
                have PG2 := PG _ b2
                clear GR PG
                go_wp2_with fail
                refine PG2.mono ?_
                rintro e w3 ⟨rfl, b3⟩
                have HB3 : Hid (Below w1.heap.size w1 w3) := (HB.out.trans (b2.mono HB.out.size)).trans (b3.mono (HB.out.trans (b2.mono HB.out.size)).size)
                clear PG2 b2 b3
                go_wp2
                go_ret2
                rw [HNN.out.1, HNN.out.2]
                exact ⟨_, rfl, World.ownsRow_nil _ _ _ _, HB3.out⟩
end Go.Proofs.YtbgomhgohphglaaDoor
