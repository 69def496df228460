/- Proved: for all drawn bytes code, of whatever length, what the law FnSorted asks holds (sorted texts do not fall and are those that were), so it returns true and leaves the input as it was; the tables are as the program's own text lays them (the tied card). -/
import Derived.Test.YtanfebccenfffaaGreatDoorOkE
import Derived.Test.YtanfebccenfffaaGreatDoorPSort4
import Derived.Test.YtanfebccenfffaaGreatDoorPCmp
import Derived.Test.YtanfebccenfffaaGreatDoorMK2
import Derived.BigRegion
import Derived.Test.YtanfebccenfffaaGreatDoorMK11
import Derived.Shelf.Pu.Clone
import Derived.Test.YtanfebccenfffaaGreatDoorMK5
import Derived.Test.YtanfebccenfffaaGreatDoorMK7
import Derived.Deep.AppendLies
import Derived.Test.YtanfebccenfffaaGreatDoorMK12
import Derived.Test.YtanfebccenfffaaGreatDoorCards
import Derived.Test.YtanfebccenfffaaGreatDoorTie
import Derived.WalkKit
import Derived.ProofKit
import Derived.OpenShut
import Derived.LaidMore
import Derived.Stop.Joined
import Derived.ChangeOld
namespace Go.Proofs.YtanfebccenfffaaGreatDoor

def ktOf (es : List Ent) (sh : Bool) (lv : Int) (s : ByteArray) : KT := ⟨keyT es sh lv s, s⟩
def okS (es : List Ent) (lv : Int) (ss : List ByteArray) : Bool := decide (ss.length ≤ 60) && (rulesOk es lv && ss.all fun s => ok4 s)
def sortS (es : List Ent) (sh : Bool) (lv : Int) (ss : List ByteArray) : List ByteArray := if okS es lv ss = true then (insK (ss.map (ktOf es sh lv)) ss.length).map KT.text else []

theorem okS_long {es : List Ent} {lv : Int} {ss : List ByteArray} (h : 60 < ss.length) : okS es lv ss = false := by unfold okS; rw [decide_eq_false (by omega), Bool.false_and]
theorem okS_rules {es : List Ent} {lv : Int} {ss : List ByteArray} (h : rulesOk es lv = false) : okS es lv ss = false := by unfold okS; rw [h, Bool.false_and, Bool.and_false]
theorem okS_bad {es : List Ent} {lv : Int} {ss : List ByteArray} {k : Nat} {s : ByteArray} (hs : ss[k]? = some s) (h : ok4 s = false) : okS es lv ss = false := by
  have : (ss.all fun s => ok4 s) = false := by
    rw [List.all_eq_false]
    exact ⟨s, List.mem_of_getElem? hs, by rw [h]; simp⟩
  unfold okS
  rw [this, Bool.and_false, Bool.and_false]
theorem okS_good {es : List Ent} {lv : Int} {ss : List ByteArray} (h1 : ss.length ≤ 60) (h2 : rulesOk es lv = true) (h3 : ∀ k s, k < ss.length → ss[k]? = some s → ok4 s = true) : okS es lv ss = true := by
  unfold okS
  rw [decide_eq_true h1, h2, Bool.true_and, Bool.true_and, List.all_eq_true]
  intro s hs
  obtain ⟨k, hk⟩ := List.getElem?_of_mem hs
  exact h3 k s (List.getElem?_eq_some_iff.1 hk).1 hk

theorem ktAt_map {es : List Ent} {sh : Bool} {lv : Int} {ss : List ByteArray} {k : Nat} {s : ByteArray} (h : ss[k]? = some s) : ktAt (ss.map (ktOf es sh lv)) k = ktOf es sh lv s := by
  unfold ktAt
  rw [List.getElem?_map, h]; rfl

theorem okE_rules {es : List Ent} {lv : Int} (x : ByteArray) (h : rulesOk es lv = true) : okE es lv x = ok4 x := by unfold okE; rw [h, Bool.and_true]

theorem insK_succ (l : List KT) (k : Nat) : insK l (k + 1) = bubK (insK l k ++ [ktAt l k]) k := rfl

theorem sortS_len (es : List Ent) (sh : Bool) (lv : Int) (ss : List ByteArray) : (sortS es sh lv ss).length ≤ 60 := by
  unfold sortS
  split
  · rename_i h
    rw [List.length_map, insK_len]
    unfold okS at h
    rw [Bool.and_eq_true] at h
    exact of_decide_eq_true h.1
  · simp

theorem bubK_perm (l : List KT) (j : Nat) (h : j < l.length) : (bubK l j).Perm l := by
  induction j generalizing l with
  | zero => exact List.Perm.refl _
  | succ j ih =>
    rw [bubK]
    split
    · have hj : j < l.length := by omega
      refine (ih _ (by simp; omega)).trans ?_
      have e1 : ktAt l j = l[j] := by unfold ktAt; rw [List.getElem?_eq_getElem hj]; rfl
      have e2 : ktAt l (j + 1) = l[j + 1] := by unfold ktAt; rw [List.getElem?_eq_getElem h]; rfl
      rw [e1, e2]
      exact List.set_set_perm hj h
    · exact List.Perm.refl _

theorem insK_perm (l : List KT) (k : Nat) (h : k ≤ l.length) : (insK l k).Perm (l.take k) := by
  induction k with
  | zero => exact List.Perm.refl _
  | succ k ih =>
    have hk : k < l.length := by omega
    rw [insK, List.take_add_one, List.getElem?_eq_getElem hk]
    have e : ktAt l k = l[k] := by unfold ktAt; rw [List.getElem?_eq_getElem hk]; rfl
    rw [e]
    refine (bubK_perm _ k (by simp [insK_len])).trans ?_
    exact (ih (by omega)).append_right _

theorem insK_all (l : List KT) : (insK l l.length).Perm l := by
  have := insK_perm l l.length (Nat.le_refl _)
  rw [List.take_length] at this
  exact this
end Go.Proofs.YtanfebccenfffaaGreatDoor

namespace Go.Proofs.YtanfebccenfffaaGreatDoor

theorem ktAt_set_ne {l : List KT} {i j : Nat} {x : KT} (h : i ≠ j) : ktAt (l.set i x) j = ktAt l j := by unfold ktAt; rw [List.getElem?_set_ne h]
theorem ktAt_set {l : List KT} {i : Nat} {x : KT} (h : i < l.length) : ktAt (l.set i x) i = x := by unfold ktAt; rw [List.getElem?_set_self h]; rfl

theorem gtS_asymm {a b : ByteArray} (h : gtS a b = true) : gtS b a = false := by
  rw [gtS_lt] at h ⊢
  exact (less_asymm _ _ h).1

theorem bubK_srt : ∀ (j : Nat) (l : List KT), j < l.length → (∀ i, i + 1 < l.length → i + 1 ≠ j → gtS (ktAt l i).key (ktAt l (i + 1)).key = false) → (∀ i, i + 1 = j → j + 1 < l.length → gtS (ktAt l i).key (ktAt l (j + 1)).key = false) →
    ∀ i, i + 1 < l.length → gtS (ktAt (bubK l j) i).key (ktAt (bubK l j) (i + 1)).key = false := by
  intro j
  induction j with
  | zero => intro l _ h _ i hi; exact h i hi (by omega)
  | succ j ih =>
    intro l hj h he i hi
    rw [bubK]
    split
    · rename_i hg
      have l1 : ((l.set j (ktAt l (j + 1))).set (j + 1) (ktAt l j)).length = l.length := by simp
      have a0 : ktAt ((l.set j (ktAt l (j + 1))).set (j + 1) (ktAt l j)) j = ktAt l (j + 1) := by rw [ktAt_set_ne (by omega), ktAt_set (by omega)]
      have a1 : ktAt ((l.set j (ktAt l (j + 1))).set (j + 1) (ktAt l j)) (j + 1) = ktAt l j := by rw [ktAt_set (by simpa using hj)]
      have a2 : ∀ k, k ≠ j → k ≠ j + 1 → ktAt ((l.set j (ktAt l (j + 1))).set (j + 1) (ktAt l j)) k = ktAt l k := fun k h1 h2 => by rw [ktAt_set_ne (by omega), ktAt_set_ne (by omega)]
      refine ih _ (by omega) (fun k hk hkj => ?_) (fun k hk _ => ?_) i (by omega)
      · by_cases c : k = j
        · subst c
          rw [a0, a1]
          exact gtS_asymm hg
        · by_cases d : k = j + 1
          · subst d
            rw [a1, a2 _ (by omega) (by omega)]
            exact he j rfl (by omega)
          · rw [a2 k c d, a2 (k + 1) (by omega) (by omega)]
            exact h k (by omega) (by omega)
      · rw [a1, a2 k (by omega) (by omega)]
        have := h k (by omega) (by omega)
        rw [hk] at this
        exact this
    · rename_i hg
      by_cases c : i = j
      · subst c
        cases hx : gtS (ktAt l i).key (ktAt l (i + 1)).key
        · rfl
        · exact absurd hx hg
      · exact h i hi (by omega)

theorem insK_srt (l : List KT) : ∀ (k : Nat), ∀ i, i + 1 < k → gtS (ktAt (insK l k) i).key (ktAt (insK l k) (i + 1)).key = false := by
  intro k
  induction k with
  | zero => intro i hi; omega
  | succ k ih =>
    intro i hi
    rw [insK]
    have hl : (insK l k ++ [ktAt l k]).length = k + 1 := by simp [insK_len]
    refine bubK_srt k _ (by omega) (fun j hj hjk => ?_) (fun j hj hk => by omega) i (by omega)
    rw [ktAt_app (by rw [insK_len]; omega), ktAt_app (by rw [insK_len]; omega)]
    exact ih j (by omega)

theorem okS_parts {es : List Ent} {lv : Int} {ss : List ByteArray} (h : okS es lv ss = true) : ss.length ≤ 60 ∧ rulesOk es lv = true ∧ ∀ s ∈ ss, ok4 s = true := by
  unfold okS at h
  rw [Bool.and_eq_true, Bool.and_eq_true] at h
  exact ⟨of_decide_eq_true h.1, h.2.1, List.all_eq_true.1 h.2.2⟩

/-- Those that were. -/
theorem sortS_perm {es : List Ent} {sh : Bool} {lv : Int} {ss : List ByteArray} (h : okS es lv ss = true) : (sortS es sh lv ss).Perm ss := by
  unfold sortS
  rw [if_pos h]
  have h1 := (insK_all (ss.map (ktOf es sh lv))).map KT.text
  have e : (ss.map (ktOf es sh lv)).map KT.text = ss := by rw [List.map_map]; exact List.map_id' ss
  rw [e, List.length_map] at h1
  exact h1

theorem sortS_no {es : List Ent} {sh : Bool} {lv : Int} {ss : List ByteArray} (h : okS es lv ss = false) : sortS es sh lv ss = [] := by
  unfold sortS
  rw [if_neg (by rw [h]; simp)]

/-- They do not fall. -/
theorem sortS_srt {es : List Ent} {sh : Bool} {lv : Int} {ss : List ByteArray} {i : Nat} {x y : ByteArray} (hx : (sortS es sh lv ss)[i]? = some x) (hy : (sortS es sh lv ss)[i + 1]? = some y) : okE es lv x = true ∧ okE es lv y = true ∧ cmpT es sh lv x y ≤ 0 := by
  cases h : okS es lv ss
  · rw [sortS_no h] at hx; simp at hx
  · have hp := okS_parts h
    have hm := sortS_perm (sh := sh) h
    have ox : okE es lv x = true := by rw [okE_rules x hp.2.1]; exact hp.2.2 x (hm.mem_iff.1 (List.mem_of_getElem? hx))
    have oy : okE es lv y = true := by rw [okE_rules y hp.2.1]; exact hp.2.2 y (hm.mem_iff.1 (List.mem_of_getElem? hy))
    refine ⟨ox, oy, ?_⟩
    unfold sortS at hx hy
    rw [if_pos h, List.getElem?_map] at hx hy
    have hi := insK_all (ss.map (ktOf es sh lv))
    rw [List.length_map] at hi
    obtain ⟨kx, hkx, rfl⟩ := Option.map_eq_some_iff.1 hx
    obtain ⟨ky, hky, rfl⟩ := Option.map_eq_some_iff.1 hy
    have fx : ∀ z, z ∈ insK (ss.map (ktOf es sh lv)) ss.length → z.key = keyT es sh lv z.text := fun z hz => by
      obtain ⟨s, _, rfl⟩ := List.mem_map.1 (hi.mem_iff.1 hz)
      rfl
    have g := insK_srt (ss.map (ktOf es sh lv)) ss.length i (by have := (List.getElem?_eq_some_iff.1 hky).1; rw [insK_len] at this; exact this)
    unfold ktAt at g
    rw [hkx, hky] at g
    have g2 : gtS kx.key ky.key = false := g
    rw [fx kx (List.mem_of_getElem? hkx), fx ky (List.mem_of_getElem? hky)] at g2
    unfold cmpT
    rw [if_pos (by rw [ox, oy]; rfl)]
    unfold cmpS
    rw [g2]
    split <;> simp

/-- How often a text is among others. -/
def cntS (t : ByteArray) (l : List ByteArray) : Nat := l.countP (fun x => decide (x = t))

theorem cntS_take (t : ByteArray) (l : List ByteArray) (k : Nat) (x : ByteArray) (h : l[k]? = some x) : cntS t (l.take (k + 1)) = cntS t (l.take k) + (if x = t then 1 else 0) := by
  unfold cntS
  rw [List.take_add_one, h, List.countP_append]
  simp

theorem cntS_le (t : ByteArray) (l : List ByteArray) : cntS t l ≤ l.length := List.countP_le_length

theorem cntS_perm {t : ByteArray} {l l' : List ByteArray} (h : l.Perm l') : cntS t l = cntS t l' := h.countP_eq _
end Go.Proofs.YtanfebccenfffaaGreatDoor

namespace Go.Proofs.YtanfebccenfffaaGreatDoor
open Go.RowKit

def ktC (x : KT) : List Value := [.string x.key, .string x.text]
def ktAll (l : List KT) : List Value := l.flatMap ktC

theorem ktAll_len (l : List KT) : (ktAll l).length = l.length * 2 := by
  induction l with
  | nil => rfl
  | cons x l ih =>
    unfold ktAll at ih ⊢
    rw [List.flatMap_cons, List.length_append, ih, List.length_cons]
    simp [ktC]
    omega

theorem ktAll_at (l : List KT) (k i : Nat) (x : KT) (h : l[k]? = some x) (hi : i < 2) : (ktAll l)[k * 2 + i]? = (ktC x)[i]? := by
  induction l generalizing k with
  | nil => simp at h
  | cons y l ih =>
    show (ktC y ++ ktAll l)[k * 2 + i]? = _
    cases k with
    | zero =>
      simp at h
      subst h
      rw [Nat.zero_mul, Nat.zero_add, List.getElem?_append_left (by show i < 2; omega)]
    | succ k =>
      rw [List.getElem?_append_right (by show 2 ≤ _; omega)]
      have : (k + 1) * 2 + i - (ktC y).length = k * 2 + i := by show (k + 1) * 2 + i - 2 = _; omega
      rw [this]
      exact ih k (by simpa using h)

theorem ktAll_set (l : List KT) (k : Nat) (x : KT) (h : k < l.length) : ktAll (l.set k x) = ((ktAll l).set (k * 2) (.string x.key)).set (k * 2 + 1) (.string x.text) := by
  induction l generalizing k with
  | nil => simp at h
  | cons y l ih =>
    cases k with
    | zero => rfl
    | succ k =>
      have hk : k < l.length := by simpa using h
      show ktC y ++ ktAll (l.set k x) = ((ktC y ++ ktAll l).set ((k + 1) * 2) _).set ((k + 1) * 2 + 1) _
      rw [ih k hk, List.set_append_right _ _ (by show 2 ≤ _; omega), List.set_append_right _ _ (by show 2 ≤ _; omega)]
      have q0 : (k + 1) * 2 - (ktC y).length = k * 2 := by show (k + 1) * 2 - 2 = _; omega
      have q1 : (k + 1) * 2 + 1 - (ktC y).length = k * 2 + 1 := by show (k + 1) * 2 + 1 - 2 = _; omega
      rw [q0, q1]

theorem ktAll_snoc (l : List KT) (x : KT) : ktAll (l ++ [x]) = ktAll l ++ ktC x := by simp [ktAll]

/-- A row of texts with keys of the call's own. -/
def KTs (w : World) (B : Nat) (v : Value) (l : List KT) : Prop := w.ownsRow B 71 2 v l.length (ktAll l)

theorem KTs.form {w : World} {B : Nat} {v : Value} {l : List KT} (h : KTs w B v l) : (v = .slice none 0 0 ∧ l = []) ∨ ∃ g cap, v = .slice (some ⟨g, 0, none⟩) l.length cap := by
  rcases h.2 with ⟨a, b⟩ | ⟨g, cap, cur, a, _⟩
  · refine .inl ⟨a, List.eq_nil_of_length_eq_zero ?_⟩
    have h2 := ktAll_len l
    rw [b] at h2
    simp at h2
    omega
  · exact .inr ⟨g, cap, a⟩

theorem KTs.below {w w' : World} {B : Nat} {v : Value} {l : List KT} (h : KTs w B v l) (hb : Below w.heap.size w w') : KTs w' B v l :=
  World.ownsRow.kept h (row := none) ⟨hb.os, hb.tape, hb.output, hb.size, fun k hk _ => hb.block k hk⟩ (by cases h : v.ownBlock <;> simp)

theorem KTs.cells {w : World} {B n g cap : Nat} {l : List KT} (h : w.ownsRow B 71 2 (.slice (some ⟨g, 0, none⟩) n cap) n (ktAll l)) (k : Nat) (x : KT) (hx : l[k]? = some x) :
    w.cell? ⟨g, k * 2, none⟩ = some (.string x.key) ∧ w.cell? ⟨g, k * 2 + 1, none⟩ = some (.string x.text) := by
  have hk := (List.getElem?_eq_some_iff.1 hx).1
  have hl := h.1
  rw [ktAll_len] at hl
  have h0 := World.ownsRow.cellAt h (k * 2) (by omega)
  have h1 := World.ownsRow.cellAt h (k * 2 + 1) (by omega)
  rw [show (ktAll l)[k * 2]? = _ from ktAll_at l k 0 x hx (by omega)] at h0
  rw [ktAll_at l k 1 x hx (by omega)] at h1
  exact ⟨h0, h1⟩

/-- What stands in every world of a round's test. -/
def SHK (w : World) (B g cap n : Nat) (l : List KT) (w' : World) : Prop := l.length = n ∧ w'.ownsRow B 71 2 (.slice (some ⟨g, 0, none⟩) n cap) n (ktAll l) ∧ w.grownBy w' (some g)

theorem SHK.below {w w1 w2 : World} {B g cap n : Nat} {l : List KT} (hb : Below w1.heap.size w1 w2) (h : SHK w B g cap n l w1) : SHK w B g cap n l w2 :=
  ⟨h.1, World.ownsRow.kept h.2.1 (row := none) (below_grownBy hb none) (by cases hx : (Value.slice (some ⟨g, 0, none⟩) n cap).ownBlock <;> simp), h.2.2.trans (below_grownBy hb _)⟩

theorem ktAt_of {l : List KT} {k : Nat} (h : k < l.length) : l[k]? = some (ktAt l k) := by
  unfold ktAt
  rw [List.getElem?_eq_getElem h]; rfl

theorem SHK.cell {w w1 : World} {B g cap n : Nat} {l : List KT} (h : SHK w B g cap n l w1) (j : Nat) (hj : j < n) : w1.cell? ⟨g, j * 2, none⟩ = some (.string (ktAt l j).key) ∧ w1.cell? ⟨g, j * 2 + 1, none⟩ = some (.string (ktAt l j).text) :=
  KTs.cells h.2.1 j _ (ktAt_of (by rw [h.1]; exact hj))

theorem keepK {w w1 w2 : World} {B g cap n i j : Nat} {l : List KT} (hi : i < n) (hj : j < n) (hb : Below w1.heap.size w1 w2)
    (h : w1.cell? ⟨g, i * 2, none⟩ = some (.string (ktAt l i).key) ∧ w1.cell? ⟨g, i * 2 + 1, none⟩ = some (.string (ktAt l i).text) ∧ w1.cell? ⟨g, j * 2, none⟩ = some (.string (ktAt l j).key) ∧ w1.cell? ⟨g, j * 2 + 1, none⟩ = some (.string (ktAt l j).text) ∧ SHK w B g cap n l w1) :
    w2.cell? ⟨g, i * 2, none⟩ = some (.string (ktAt l i).key) ∧ w2.cell? ⟨g, i * 2 + 1, none⟩ = some (.string (ktAt l i).text) ∧ w2.cell? ⟨g, j * 2, none⟩ = some (.string (ktAt l j).key) ∧ w2.cell? ⟨g, j * 2 + 1, none⟩ = some (.string (ktAt l j).text) ∧ SHK w B g cap n l w2 := by
  have hs := h.2.2.2.2.below hb
  exact ⟨(hs.cell i hi).1, (hs.cell i hi).2, (hs.cell j hj).1, (hs.cell j hj).2, hs⟩

theorem shk_swap {w w1 : World} {B g cap n : Nat} {l : List KT} (h : SHK w B g cap n l w1) (i j : Nat) (hi : i < n) (hj : j < n) :
    SHK w B g cap n ((l.set i (ktAt l j)).set j (ktAt l i)) ((((w1.setCell ⟨g, i * 2, none⟩ (.string (ktAt l j).key)).setCell ⟨g, i * 2 + 1, none⟩ (.string (ktAt l j).text)).setCell ⟨g, j * 2, none⟩ (.string (ktAt l i).key)).setCell ⟨g, j * 2 + 1, none⟩ (.string (ktAt l i).text)) := by
  have hl := h.1
  have h1 := World.ownsRow.stored h.2.1 (i * 2) (.string (ktAt l j).key)
  have h2 := World.ownsRow.stored h1.1 (i * 2 + 1) (.string (ktAt l j).text)
  have h3 := World.ownsRow.stored h2.1 (j * 2) (.string (ktAt l i).key)
  have h4 := World.ownsRow.stored h3.1 (j * 2 + 1) (.string (ktAt l i).text)
  have hg := ((h1.2.trans h2.2).trans h3.2).trans h4.2
  refine ⟨by simp [hl], ?_, h.2.2.trans hg⟩
  rw [ktAll_set _ j _ (by simp; omega), ktAll_set _ i _ (by omega)]
  exact h4.1

set_option maxRecDepth 100000 in
set_option maxHeartbeats 1000000 in
theorem keyFn_any (k t : ByteArray) (w : World) : Calls Tryz.prog 35 #[.agg #[.string k, .string t]] w fun e w' => e = .returned (.string k) ∧ Below w.heap.size w w' := by
  go_enter Tryz.func35, Tryz.ntmps35
  go_wp2
  go_ret
  exact ⟨rfl, (Below.refl _ _).alloc (Nat.le_refl _) _⟩

def KOut (w : World) (B g cap n : Nat) (l : List KT) (i : Value) (wr : World) : Prop := ∃ k : Nat, k ≤ n ∧ i = .int .i64 k ∧ SHK w B g cap n (srtK l k) wr
def KIn (w : World) (B g cap n : Nat) (goal : List KT) (i : Value) (wr : World) : Prop := ∃ (j : Nat) (l : List KT), j < n ∧ i = .int .i64 j ∧ SHK w B g cap n l wr ∧ bubK l j = goal

set_option maxRecDepth 100000 in
set_option maxHeartbeats 4000000 in
theorem sortK_row (w : World) (B g cap n : Nat) (l : List KT) (hlen : l.length = n) (hown : w.ownsRow B 71 2 (.slice (some ⟨g, 0, none⟩) n cap) n (ktAll l)) (hn : n ≤ 1048576) :
    Calls Tryz.prog 34 #[.slice (some ⟨g, 0, none⟩) n cap, .func (.func 35) #[] #[]] w fun e w' => e = .returned (.tuple #[]) ∧ SHK w B g cap n (srtK l n) w' := by
  go_enter Tryz.func34, Tryz.ntmps34
  go_wp2
  go_loopw [8] (fun i wr => KOut w B g cap n l i wr) (fun i _ => n - (intOf i).toNat)
  case atStart => exact ⟨0, Nat.zero_le _, rfl, hlen, hown, grown_refl _ _⟩
  case round =>
    clear hown hlen
    obtain ⟨k, hk, rfl, hsh⟩ := hrel
    by_cases hlt : k < n
    · go_wp2_with fail
      go_loopw [5] (fun i wr => KIn w B g cap n (srtK l (k + 1)) i wr) (fun i _ => (intOf i).toNat)
      case atStart => exact ⟨k, srtK l k, hlt, rfl, hsh, rfl⟩
      case round =>
        clear hsh
        obtain ⟨j, l1, hj, rfl, hsh, hgoal⟩ := hrel
        have HG : Hid _ := hgoal
        clear hgoal
        cases j with
        | zero =>
          go_wp2
          go_quiet (fail)
          go_wp2
          have he : l1 = srtK l (k + 1) := HG.out
          subst he
          exact ⟨⟨k + 1, by omega, by go_num, hsh.below (below_drewN (Below.refl _ _) _)⟩, by simp [intOf]; omega⟩
        | succ p =>
          have hp1 : p < n := by omega
          have hw1 : IntKind.i64.wrap ((p : Int) + 1 - 1) = (p : Int) := by rw [IntKind.wrap_i64]; omega
          have hw2 : IntKind.i64.wrap (((p + 1 : Nat) : Int) - 1) = (p : Int) := by rw [IntKind.wrap_i64]; omega
          have hw3 : IntKind.i64.wrap (p : Int) = (p : Int) := by rw [IntKind.wrap_i64]; omega
          have hq1 : (p : Int) < (n : Int) := by omega
          have hq2 : (p : Int) + 1 < (n : Int) := by omega
          have hS : wr.cell? ⟨g, p * 2, none⟩ = some (.string (ktAt l1 p).key) ∧ wr.cell? ⟨g, p * 2 + 1, none⟩ = some (.string (ktAt l1 p).text) ∧ wr.cell? ⟨g, (p + 1) * 2, none⟩ = some (.string (ktAt l1 (p + 1)).key) ∧ wr.cell? ⟨g, (p + 1) * 2 + 1, none⟩ = some (.string (ktAt l1 (p + 1)).text) ∧ SHK w B g cap n l1 wr := ⟨(hsh.cell p hp1).1, (hsh.cell p hp1).2, (hsh.cell (p + 1) hj).1, (hsh.cell (p + 1) hj).2, hsh⟩
          have hS2 := keepK hp1 hj ((Below.refl wr.heap.size wr).drew) hS
          have KF := fun k t w => keyFn_any k t w
          go_wp2_with fail
          go_region_held (fun w' => w'.cell? ⟨g, p * 2, none⟩ = some (.string (ktAt l1 p).key) ∧ w'.cell? ⟨g, p * 2 + 1, none⟩ = some (.string (ktAt l1 p).text) ∧ w'.cell? ⟨g, (p + 1) * 2, none⟩ = some (.string (ktAt l1 (p + 1)).key) ∧ w'.cell? ⟨g, (p + 1) * 2 + 1, none⟩ = some (.string (ktAt l1 (p + 1)).text) ∧ SHK w B g cap n l1 w')
            (first | exact hS2 | exact keepK hp1 hj (by assumption) (by assumption) | exact keepK hp1 hj (by assumption) ⟨by assumption, by assumption, by assumption, by assumption, by assumption⟩)
            (first | (go_at_call 35; refine (KF _ _ _).mono ?_; rintro e w' ⟨rfl, hbw⟩))
          all_goals
            have hE : SHK w B g cap n l1 w' := (show w'.cell? ⟨g, p * 2, none⟩ = _ ∧ _ ∧ _ ∧ _ ∧ SHK w B g cap n l1 w' by assumption).2.2.2.2
            clear hS hS2 hsh KF
            cases hl : Op.bytesLess (ktAt l1 p).key.toList (ktAt l1 (p + 1)).key.toList
            · cases hq : ((ktAt l1 p).key.toList == (ktAt l1 (p + 1)).key.toList)
              · have hgt : gtS (ktAt l1 p).key (ktAt l1 (p + 1)).key = true := by unfold gtS ltS eqS; rw [hl, hq]; rfl
                have HG2 : Hid (bubK ((l1.set p (ktAt l1 (p + 1))).set (p + 1) (ktAt l1 p)) p = srtK l (k + 1)) := (bubK_go hgt).symm.trans HG.out
                have HW := shk_swap hE p (p + 1) hp1 hj
                obtain ⟨e1, e2⟩ := hE.cell p hp1
                obtain ⟨e3, e4⟩ := hE.cell (p + 1) hj
                have f1 := World.ownsRow.frozenAt hE.2.1 (p * 2)
                have f2 := World.ownsRow.frozenAt hE.2.1 (p * 2 + 1)
                have f3 := World.ownsRow.frozenAt hE.2.1 ((p + 1) * 2)
                have f4 := World.ownsRow.frozenAt hE.2.1 ((p + 1) * 2 + 1)
                clear HG hE hgt
                go_wp2_with fail
                go_region
                all_goals go_wp2
                all_goals exact ⟨⟨p, _, by omega, rfl, HW.below ((Below.refl _ _).drew), HG2.out⟩, by simp [intOf]⟩
              · have hgt : gtS (ktAt l1 p).key (ktAt l1 (p + 1)).key = false := by unfold gtS ltS eqS; rw [hl, hq]; rfl
                have he : l1 = srtK l (k + 1) := (bubK_stop hgt).symm.trans HG.out
                clear HG hgt
                go_wp2
                subst he
                exact ⟨⟨k + 1, by omega, by go_num, hE⟩, by simp [intOf]; omega⟩
            · have hgt : gtS (ktAt l1 p).key (ktAt l1 (p + 1)).key = false := by unfold gtS ltS; rw [hl]; rfl

              have he : l1 = srtK l (k + 1) := (bubK_stop hgt).symm.trans HG.out
              clear HG hgt
              simp only [Bool.not_true, Bool.false_and]
              go_wp2
              subst he
              exact ⟨⟨k + 1, by omega, by go_num, hE⟩, by simp [intOf]; omega⟩
    · have hkm : k = n := by omega
      subst hkm
      go_wp2
      go_end0
      exact ⟨rfl, hsh⟩
end Go.Proofs.YtanfebccenfffaaGreatDoor

namespace Go.Proofs.YtanfebccenfffaaGreatDoor
open Go.RowKit

def pu25_ren : Go.Shelf.Ren := ⟨fun | 25 => 61 | n => n, fun | 0 => 0 | 3 => 3 | 4 => 4 | 5 => 5 | 9 => 9 | 37 => 22 | 47 => 118 | n => n, fun | n => n⟩
theorem pu25 : Go.Proofs.LaysPu.n25 Tryz.prog pu25_ren := {
  mixed := by kernel_rfl
  f25 := Tryz.func61.trans (congrArg some (by kernel_rfl))
  t0 := Tryz.underlying0
  a0 := Tryz.isAgg0
  z0 := Tryz.sizeOf0
  v0 := Tryz.zeroValue0
  i0 := by kernel_rfl
  t3 := Tryz.underlying3
  a3 := Tryz.isAgg3
  z3 := Tryz.sizeOf3
  v3 := Tryz.zeroValue3
  i3 := by kernel_rfl
  t4 := Tryz.underlying4
  a4 := Tryz.isAgg4
  z4 := Tryz.sizeOf4
  v4 := Tryz.zeroValue4
  i4 := by kernel_rfl
  t5 := Tryz.underlying5
  a5 := Tryz.isAgg5
  z5 := Tryz.sizeOf5
  v5 := Tryz.zeroValue5
  i5 := by kernel_rfl
  t9 := Tryz.underlying9
  a9 := Tryz.isAgg9
  z9 := Tryz.sizeOf9
  v9 := Tryz.zeroValue9
  i9 := by kernel_rfl
  t37 := Tryz.underlying22
  a37 := Tryz.isAgg22
  z37 := Tryz.sizeOf22
  v37 := Tryz.zeroValue22
  i37 := by kernel_rfl
  t47 := Tryz.underlying118
  a47 := Tryz.isAgg118
  z47 := Tryz.sizeOf118
  v47 := Tryz.zeroValue118
  i47 := by kernel_rfl }

set_option maxRecDepth 100000 in
set_option maxHeartbeats 1000000 in
theorem clone_str (s : ByteArray) (w : World) (hs : s.size ≤ 1048576) : Calls Tryz.prog 36 #[.string s] w fun e w' => e = .returned (.string s) ∧ Below w.heap.size w w' := by
  have C : Calls Tryz.prog 61 #[.string s] w fun e w' => e = .returned (.string s) ∧ Below w.heap.size w w' := Go.Proofs.AnyPu.stringslite_Clone pu25 s w (by omega)
  go_enter Tryz.func36, Tryz.ntmps36
  go_wp2_with fail
  refine C.mono ?_
  rintro e w1 ⟨rfl, b1⟩
  clear C
  go_wp2
  go_ret
  exact ⟨rfl, b1⟩
end Go.Proofs.YtanfebccenfffaaGreatDoor

namespace Go.Proofs.YtanfebccenfffaaGreatDoor
open Go.RowKit

theorem info_kt : (Tryz.prog.info? 71).map (fun i => (i.zero, i.size, i.bytes)) = some (some (.agg #[.string ⟨#[]⟩, .string ⟨#[]⟩]), 2, 32) := by kernel_rfl

set_option maxRecDepth 100000 in
set_option maxHeartbeats 1000000 in
theorem sortK_none (w : World) : Calls Tryz.prog 34 #[.slice none 0 0, .func (.func 35) #[] #[]] w fun e w' => e = .returned (.tuple #[]) ∧ w' = w := by
  go_enter Tryz.func34, Tryz.ntmps34
  go_wp2
  go_loop [8] (fun i => i = .int .i64 0) (fun _ => 0)
  case atStart => rfl
  case round =>
    subst hrel
    go_wp2
    go_end0
    exact ⟨rfl, rfl⟩

theorem sortK_any {w : World} {B : Nat} {v : Value} {l : List KT} (h : KTs w B v l) (hn : l.length ≤ 1048576) :
    Calls Tryz.prog 34 #[v, .func (.func 35) #[] #[]] w fun e w' => e = .returned (.tuple #[]) ∧ KTs w' B v (insK l l.length) ∧ w.grownBy w' v.ownBlock := by
  rcases h.form with ⟨rfl, rfl⟩ | ⟨g, cap, rfl⟩
  · refine (sortK_none w).mono ?_
    rintro e w' ⟨rfl, rfl⟩
    exact ⟨rfl, h, grown_refl _ _⟩
  · refine (sortK_row w B g cap l.length l rfl h hn).mono ?_
    rintro e w' ⟨rfl, h1, h2, h3⟩
    refine ⟨rfl, ?_, h3⟩
    rw [srtK_all] at h1 h2
    unfold KTs
    rw [h1]
    exact h2

theorem cellsK_at (w : World) (n : Nat) (x : KT) (t : TypeId) (hn : n = w.heap.size) : ∀ j u, (ktC x)[j]? = some u → (w.alloc (.cells #[.string x.key, .string x.text] t)).cell? ((⟨n, 0, none⟩ : Addr).add j) = some u := by
  subst hn
  intro j u hj
  match j, hj with
  | 0, hj => simp [ktC] at hj; subst hj; simp [Addr.add]
  | 1, hj => simp [ktC] at hj; subst hj; simp [Addr.add]
  | j + 2, hj => simp [ktC] at hj

theorem KTs.snoc {w : World} {B : Nat} {v : Value} {l : List KT} {x : KT} (h : w.ownsRow B 71 2 v (l.length + 1) (ktAll l ++ ktC x)) : KTs w B v (l ++ [x]) := by
  unfold KTs
  rw [ktAll_snoc, List.length_append]
  exact h

theorem Strs.sliceI {w : World} {B : Nat} {v : Value} {ss : List ByteArray} (h : Strs w B v ss) :
    ∃ a c, v = .slice a ss.length c ∧ ∀ k x, ss[k]? = some x → ∃ g, a = some ⟨g, 0, none⟩ ∧ g < w.heap.size ∧ w.cell? ⟨g, k, none⟩ = some (.string x) := by
  rcases h.form with ⟨rfl, rfl⟩ | ⟨g, cap, rfl, _, _⟩
  · exact ⟨_, _, rfl, fun k x hx => by simp at hx⟩
  · exact ⟨_, _, rfl, fun k x hx => ⟨g, rfl, (World.ownsRow.lt h g rfl).2, Strs.cell h k x hx⟩⟩

theorem KTs.sliceK {w : World} {B : Nat} {v : Value} {l : List KT} (h : KTs w B v l) : ∃ a c, v = .slice a l.length c ∧ (∀ k, k < l.length → ∃ g, a = some ⟨g, 0, none⟩ ∧ g < w.heap.size ∧ w.cell? ⟨g, k * 2, none⟩ = some (.string (ktAt l k).key) ∧ w.cell? ⟨g, k * 2 + 1, none⟩ = some (.string (ktAt l k).text)) := by
  rcases h.form with ⟨rfl, rfl⟩ | ⟨g, cap, rfl⟩
  · exact ⟨_, _, rfl, fun k hk => by simp at hk⟩
  · exact ⟨_, _, rfl, fun k hk => ⟨g, rfl, (World.ownsRow.lt h g rfl).2, KTs.cells h k _ (ktAt_of hk)⟩⟩

def I1R (W : World) (L : List KT) (n : Nat) (v6 i : Value) (wr : World) : Prop :=
  ∃ k : Nat, k ≤ n ∧ i = .int .i64 k ∧ KTs wr W.heap.size v6 (L.take k) ∧ Below W.heap.size W wr
def I2R (W : World) (L : List KT) (v11 i : Value) (wr : World) : Prop :=
  ∃ k : Nat, k ≤ L.length ∧ i = .int .i64 k ∧ Strs wr W.heap.size v11 ((L.take k).map KT.text) ∧ Below W.heap.size W wr

theorem take_kt {L : List KT} {k : Nat} (h : k < L.length) : L.take (k + 1) = L.take k ++ [ktAt L k] := by
  rw [List.take_add_one, ktAt_of h]; rfl

theorem low_strs {w : World} {B B' : Nat} {v : Value} {l : List ByteArray} (h : Strs w B' v l) (hB : B ≤ B') : Strs w B v l := by
  refine ⟨h.1, ?_⟩
  rcases h.2 with h | ⟨g, cap, cur, h1, h2, h3⟩
  · exact .inl h
  · exact .inr ⟨g, cap, cur, h1, Nat.le_trans hB h2, h3⟩

theorem cellU_at (w : World) (n : Nat) (x : ByteArray) (t : TypeId) (hn : n = w.heap.size) : ∀ j u, [Value.string x][j]? = some u → (w.alloc (.cells #[.string x] t)).cell? ((⟨n, 0, none⟩ : Addr).add j) = some u := by
  subst hn
  intro j u hj
  match j, hj with
  | 0, hj => simp at hj; subst hj; simp [Addr.add]

set_option maxRecDepth 100000 in
set_option maxHeartbeats 4000000 in
theorem implSort_any {w : World} {B B' : Nat} {ve vl : Value} {es : List Ent} {sh : Bool} {lv : Int} (ss : List ByteArray) (hE : Ents w B ve es) (hr : ∀ e ∈ es, e.runes.length ≤ 1048576) (ht : Tabs3 w) (hL : Strs w B' vl ss) (hsz : ∀ s ∈ ss, s.size ≤ 1048576) (hln : ss.length ≤ 1048576) :
    Calls Tryz.prog 14 #[.agg #[ve, .bool sh, .int .i64 lv], vl] w fun e w' => ∃ v', e = .returned (.tuple #[v', .bool (okS es lv ss)]) ∧ Strs w' w.heap.size v' (sortS es sh lv ss) ∧ Below w.heap.size w w' := by
  obtain ⟨va, vc, rfl⟩ : ∃ a c, ve = .slice a es.length c := by
    rcases hE.form with ⟨rfl, rfl⟩ | ⟨_, _, rfl, _, _, _, _⟩
    · exact ⟨_, _, rfl⟩
    · exact ⟨_, _, rfl⟩
  obtain ⟨la, lc, rfl, hcL⟩ := hL.sliceI
  obtain ⟨i0, hi0, hz0, hs0, hy0⟩ := info_parts info_str
  obtain ⟨i1, hi1, hz1, hs1, hy1⟩ := info_parts info_kt
  have hbx : Below w.heap.size w (w.alloc (.cells #[.slice va es.length vc, .bool sh, .int .i64 lv] 25)) := (Below.refl _ _).alloc (Nat.le_refl _) _
  have hbox : BoxR4 (w.alloc (.cells #[.slice va es.length vc, .bool sh, .int .i64 lv] 25)) w.heap.size (.slice va es.length vc) sh lv := heap_alloc_new w _
  have hlb : w.heap.size < (w.alloc (.cells #[.slice va es.length vc, .bool sh, .int .i64 lv] 25)).heap.size := by simp
  have GR := implGood3_any (sh := sh) (lv := lv) (hE.below hbx) hr (ht.below hbx)
  have HE : Hid (Ents _ _ _ _) := hE
  have HTT : Hid (Tabs3 _) := ht
  have HCL : Hid _ := hcL
  have HSZ : Hid (∀ s ∈ ss, s.size ≤ 1048576) := hsz
  clear hE hL hcL hsz ht
  by_cases h60 : 60 < ss.length
  · have h608 : (60 : Int) < (ss.length : Int) := by omega
    have h609 : decide ((60 : Int) < (ss.length : Int)) = true := decide_eq_true h608
    have hf := okS_long (es := es) (lv := lv) h60
    unfold sortS
    rw [hf, if_neg (by simp)]
    clear hf GR
    go_enter Tryz.func14, Tryz.ntmps14
    go_wp2
    go_ret2
    exact ⟨_, rfl, ⟨rfl, .inl ⟨rfl, rfl⟩⟩, hbx⟩
  · have h608 : ¬ (60 : Int) < (ss.length : Int) := by omega
    have h609 : decide ((60 : Int) < (ss.length : Int)) = false := decide_eq_false h608
    cases hro : rulesOk es lv
    · rw [hro] at GR
      have hf := okS_rules (ss := ss) hro
      unfold sortS
      rw [hf, if_neg (by simp)]
      clear hf hro
      go_enter Tryz.func14, Tryz.ntmps14
      go_wp2_with fail
      refine GR.mono ?_
      rintro e w2 ⟨rfl, b2⟩
      clear GR
      go_wp2
      go_ret2
      exact ⟨_, rfl, ⟨rfl, .inl ⟨rfl, rfl⟩⟩, hbx.trans (b2.mono hbx.size)⟩
    · rw [hro] at GR
      have KY2 : ∀ (u : World) (hu : Below w.heap.size w u) (x : ByteArray) (hx : x.size ≤ 1048576), Calls Tryz.prog 12 #[.agg #[.slice va es.length vc, .bool sh, .int .i64 lv], .string x] u fun e w' => e = .returned (.tuple #[.string (keyT es sh lv x), .bool (ok4 x)]) ∧ Below u.heap.size u w' := fun u hu x hx => by
        have := implKey_any (sh := sh) (lv := lv) x hx (HE.out.below hu) hr (HTT.out.below hu)
        rw [okE_rules x hro] at this
        exact this
      have HKY : Hid _ := KY2
      have HRO : Hid (rulesOk es lv = true) := hro
      clear KY2 hro
      obtain ⟨W0, HW0⟩ : ∃ W0, Hid (W0 = w.alloc (.cells #[.slice va es.length vc, .bool sh, .int .i64 lv] 25)) := ⟨_, rfl⟩
      rw [← HW0.out] at hbx hbox hlb GR
      go_enter Tryz.func14, Tryz.ntmps14
      go_wp2_with fail
      rw [← HW0.out]
      obtain ⟨c0, c1, c2⟩ := hbox.cells
      refine GR.mono ?_
      rintro e W ⟨rfl, bW⟩
      have HBO : Hid (BoxR4 W w.heap.size (.slice va es.length vc) sh lv) := hbox.below bW hlb
      have HBW : Hid (Below w.heap.size w W) := hbx.trans (bW.mono hbx.size)
      have hwW : w.heap.size < W.heap.size := Nat.lt_of_lt_of_le hlb bW.size
      obtain ⟨L, HL⟩ : ∃ L, Hid (ss.map (ktOf es sh lv) = L) := ⟨_, rfl⟩
      have HLL : Hid (L.length = ss.length) := by show _ = _; rw [← HL.out, List.length_map]
      clear GR c0 c1 c2 hbox hbx bW HW0 hlb
      go_wp2_with fail
      go_loopw [6, 24] (fun v6 i wr => (∀ j s, j < (intOf i).toNat → ss[j]? = some s → ok4 s = true) ∧ I1R W L ss.length v6 i wr) (fun _ i _ => ss.length - (intOf i).toNat)
      case atStart => exact ⟨fun j s hj => by simp [intOf] at hj, 0, Nat.zero_le _, rfl, ⟨rfl, .inl ⟨rfl, rfl⟩⟩, Below.refl _ _⟩
      case round =>
        obtain ⟨hgd, k, hk, rfl, hK, hbw⟩ := hrel
        have HGD : Hid (∀ j s, j < k → ss[j]? = some s → ok4 s = true) := fun j s hj hs => hgd j s (by simpa [intOf] using hj) hs
        clear hgd
        have hsz1 := hbw.size
        have hkl : (L.take k).length = k := by rw [List.length_take, HLL.out]; omega
        by_cases hlt : k < ss.length
        · obtain ⟨x, hx⟩ : ∃ x, ss[k]? = some x := ⟨_, List.getElem?_eq_getElem hlt⟩
          obtain ⟨g, rfl, hgl, y0⟩ := HCL.out k x hx
          have a0 : wr.cell? ⟨g, k, none⟩ = some (.string x) := ((HBW.out.trans (hbw.mono HBW.out.size)).cell (p := ⟨g, k, none⟩) hgl).trans y0
          have hk8 : (k : Int) < (ss.length : Int) := by omega
          obtain ⟨c0, c1, c2⟩ := (HBO.out.below hbw hwW).cells
          have K1 := HKY.out wr (HBW.out.trans (hbw.mono HBW.out.size)) x (HSZ.out x (List.mem_of_getElem? hx))
          have HX : Hid (ss[k]? = some x) := hx
          clear hx y0
          cases hok : ok4 x
          · rw [hok] at K1
            have hf := okS_bad (es := es) (lv := lv) HX.out hok
            have hf2 : sortS es sh lv ss = [] := by unfold sortS; rw [hf, if_neg (by simp)]
            have HF : Hid (okS es lv ss = false ∧ sortS es sh lv ss = []) := ⟨hf, hf2⟩
            clear hf hf2 hok hK
            go_wp2_with fail
            refine K1.mono ?_
            rintro e w2 ⟨rfl, b2⟩
            have HB2 : Hid (Below w.heap.size w w2) := HBW.out.trans ((hbw.trans (b2.mono hbw.size)).mono HBW.out.size)
            clear K1 c0 c1 c2 a0 b2 hbw
            go_wp2
            go_ret2
            rw [HF.out.1, HF.out.2]
            exact ⟨_, rfl, ⟨rfl, .inl ⟨rfl, rfl⟩⟩, HB2.out⟩
          · rw [hok] at K1
            have HGD2 : Hid (∀ j s, j < k + 1 → ss[j]? = some s → ok4 s = true) := fun j s hj hs => by
              by_cases c : j = k
              · subst c
                rw [HX.out] at hs
                cases hs
                exact hok
              · exact HGD.out j s (by omega) hs
            have HKA : Hid (L.take (k + 1) = L.take k ++ [⟨keyT es sh lv x, x⟩]) := by
              show _ = _
              rw [take_kt (by rw [HLL.out]; exact hlt), ← HL.out, ktAt_map HX.out]; rfl
            generalize keyT es sh lv x = kx at *
            have HK : Hid (KTs _ _ _ _) := hK
            clear hok HGD HX hK
            go_wp2_with fail
            refine K1.mono ?_
            rintro e w2 ⟨rfl, b2⟩
            have hK2 := HK.out.below b2
            have hb2 := hbw.trans (b2.mono hbw.size)
            have hsz2 := hb2.size
            unfold KTs at hK2
            clear K1 c0 c1 c2 a0 b2 hbw HK
            go_wp2_with (at_builtin; refine wpList_append_own _ rfl _ _ 69 rfl W.heap.size 71 i1 _ 2 32 Tryz.underlying69 hi1 hz1 hs1 hy1 rfl (by decide) _ _ _ rfl (hK2.alloc _) ⟨w2.heap.size, 0, none⟩ 1 1 (ktC ⟨kx, x⟩) rfl rfl (cellsK_at _ _ ⟨kx, x⟩ _ (by simp)) (fun u hu => by simp [ktC] at hu; rcases hu with rfl | rfl <;> rfl) (by unfold maxLen; omega) (by omega) (by simp; omega) ?_)
            intro v4 w4 ho4 hg4 _
            have hI4 : KTs w4 W.heap.size v4 (L.take k ++ [⟨kx, x⟩]) := KTs.snoc (by rw [hkl]; exact ho4)
            have hb4 : Below W.heap.size W w4 := Below.grown (hb2.alloc hb2.size _) hg4 (hb2.alloc hb2.size _).size (fun j hj => (World.ownsRow.lt hK2 j hj).1)
            have HI4 : Hid (KTs _ _ _ _) := hI4
            clear ho4 hg4 hK2 hI4 hb2
            go_wp2
            exact ⟨⟨fun j s hj hs => HGD2.out j s (by simp [intOf] at hj; omega) hs, k + 1, by omega, by go_num, by rw [HKA.out]; exact HI4.out, hb4⟩, by simp [intOf]; omega⟩
        · have hk3 : k = ss.length := by omega
          subst hk3
          have hfin := okS_good (es := es) (lv := lv) (ss := ss) (by omega) HRO.out (fun j s hj hs => HGD.out j s hj hs)
          have hfin2 : sortS es sh lv ss = (insK L L.length).map KT.text := by unfold sortS; rw [hfin, if_pos rfl, HL.out, HLL.out]
          have HF : Hid (okS es lv ss = true ∧ sortS es sh lv ss = (insK L L.length).map KT.text) := ⟨hfin, hfin2⟩
          have htk : L.take ss.length = L := by rw [← HLL.out, List.take_length]
          rw [htk] at hK
          have SK := sortK_any hK (by rw [HLL.out]; exact hln)
          have hG6 : ∀ b, u6.ownBlock = some b → W.heap.size ≤ b := fun b hb => (World.ownsRow.lt hK b hb).1
          have HG6 : Hid _ := hG6
          have HSZK : Hid (∀ j, j < (insK L L.length).length → (ktAt (insK L L.length) j).text.size ≤ 1048576) := fun j hj => by
            have hm : ktAt (insK L L.length) j ∈ insK L L.length := List.mem_of_getElem? (ktAt_of hj)
            have hm2 := (insK_all L).mem_iff.1 hm
            rw [← HL.out] at hm2
            obtain ⟨s, hs, he⟩ := List.mem_map.1 hm2
            rw [HL.out] at he
            rw [← he]
            exact HSZ.out s hs
          have hil : (insK L L.length).length ≤ 60 := by rw [insK_len, HLL.out]; omega
          obtain ⟨M, HM⟩ : ∃ M, Hid (insK L L.length = M) := ⟨_, rfl⟩
          rw [HM.out] at SK HF HSZK hil
          obtain ⟨a6, c6, hu6⟩ : ∃ a c, u6 = .slice a ss.length c := by
            obtain ⟨a, c, h, _⟩ := hK.sliceK
            rw [HLL.out] at h
            exact ⟨a, c, h⟩
          subst hu6
          clear hfin hfin2 hK HGD htk hG6 hkl
          go_wp2_with fail
          refine SK.mono ?_
          rintro e w3 ⟨rfl, k3, g3⟩
          have hb3 : Below W.heap.size W w3 := Below.grown hbw g3 hbw.size (fun b hb => HG6.out b hb)
          obtain ⟨a7, c7, hv7, hcK⟩ := k3.sliceK
          injection hv7 with q1 q2 q3
          subst q1
          subst q3
          have HML : Hid (M.length = ss.length) := q2.symm
          have HCK : Hid _ := hcK
          have hsz3 := hb3.size
          clear SK g3 hbw k3 q2 hcK HG6
          go_wp2_with fail
          go_loopw [11, 47] (fun v11 i wr => I2R w3 M v11 i wr) (fun _ i _ => ss.length - (intOf i).toNat)
          case atStart => exact ⟨0, Nat.zero_le _, rfl, ⟨rfl, .inl ⟨rfl, rfl⟩⟩, Below.refl _ _⟩
          case round =>
            obtain ⟨k, hk, rfl, hS, hbr⟩ := hrel
            have hml := HML.out
            have hkl : ((M.take k).map KT.text).length = k := by rw [List.length_map, List.length_take]; omega
            have hszr := hbr.size
            by_cases hlt : k < M.length
            · obtain ⟨g, rfl, hgl, y0, y1⟩ := HCK.out k hlt
              have a0 : wr.cell? ⟨g, k * 2, none⟩ = some (.string (ktAt M k).key) := (hbr.cell (p := ⟨g, k * 2, none⟩) hgl).trans y0
              have a1 : wr.cell? ⟨g, k * 2 + 1, none⟩ = some (.string (ktAt M k).text) := (hbr.cell (p := ⟨g, k * 2 + 1, none⟩) hgl).trans y1
              have hk8 : (k : Int) < (ss.length : Int) := by omega
              have hba := hbr.alloc hbr.size (.cells #[.string (ktAt M k).key, .string (ktAt M k).text] 71)
              have CL := clone_str (ktAt M k).text (wr.alloc (.cells #[.string (ktAt M k).key, .string (ktAt M k).text] 71)) (HSZK.out k hlt)
              have HTK : Hid ((M.take (k + 1)).map KT.text = (M.take k).map KT.text ++ [(ktAt M k).text]) := by show _ = _; rw [take_kt hlt, List.map_append]; rfl
              have HS : Hid (Strs _ _ _ _) := World.ownsRow.alloc hS (.cells #[.string (ktAt M k).key, .string (ktAt M k).text] 71)
              generalize (ktAt M k).text = tx at *
              generalize (ktAt M k).key = kk at *
              have HBA : Hid (Below _ _ _) := hba
              clear hS hbr y0 y1 hba hml
              go_wp2_with fail
              refine CL.mono ?_
              rintro e w4 ⟨rfl, b4⟩
              have hS4 := Strs.below HS.out b4
              have hb4 := HBA.out.trans (b4.mono HBA.out.size)
              have hsz4 := hb4.size
              unfold Strs at hS4
              rw [hkl] at hS4
              clear CL HS HBA b4 a0 a1
              go_wp2_with (at_builtin; refine wpList_append_own _ rfl _ _ 40 rfl w3.heap.size 9 i0 (.string ⟨#[]⟩) 1 16 Tryz.underlying40 hi0 hz0 hs0 hy0 rfl (by decide) _ _ _ rfl (hS4.alloc _) ⟨w4.heap.size, 0, none⟩ 1 1 [.string tx] rfl rfl (cellU_at _ _ _ _ (by simp)) (fun u hu => by simp at hu; subst hu; rfl) (by unfold maxLen; omega) (by omega) (by simp; omega) ?_)
              intro v5 w5 ho5 hg5 _
              have hI5 : Strs w5 w3.heap.size v5 ((M.take k).map KT.text ++ [tx]) := Strs.snoc (by rw [hkl]; simpa using ho5)
              have hb5 : Below w3.heap.size w3 w5 := Below.grown (hb4.alloc hb4.size _) hg5 (hb4.alloc hb4.size _).size (fun j hj => (World.ownsRow.lt hS4 j hj).1)
              have HI5 : Hid (Strs _ _ _ _) := hI5
              clear ho5 hg5 hS4 hI5 hb4
              go_wp2
              exact ⟨⟨k + 1, by omega, by go_num, by rw [HTK.out]; exact HI5.out, hb5⟩, by simp [intOf]; omega⟩
            · have hk4 : k = M.length := by omega
              subst hk4
              have HT : Hid (Strs wr w3.heap.size u11 (M.map KT.text)) := by show Strs _ _ _ _; rw [List.take_length] at hS; exact hS
              clear hS hkl
              go_wp2
              go_ret2
              rw [HF.out.1, HF.out.2]
              exact ⟨_, rfl, low_strs HT.out (by have := HBW.out.size; omega), HBW.out.trans ((hb3.trans (hbr.mono hb3.size)).mono HBW.out.size)⟩
end Go.Proofs.YtanfebccenfffaaGreatDoor

namespace Go.Proofs.YtanfebccenfffaaGreatDoor
open Go.RowKit

/-- Two rows apart: the keys and the texts. -/
structure KO (w : World) (B : Nat) (v6 v7 : Value) (n : Nat) (l : List KT) : Prop where
  len : l.length = n
  keys : w.ownsRow B 9 1 v6 n ((l.map KT.key).map Value.string)
  texts : w.ownsRow B 9 1 v7 n ((l.map KT.text).map Value.string)
  apart : v6.ownBlock = none ∨ v6.ownBlock ≠ v7.ownBlock

theorem KO.below {w w' : World} {B n : Nat} {v6 v7 : Value} {l : List KT} (h : KO w B v6 v7 n l) (hb : Below w.heap.size w w') : KO w' B v6 v7 n l :=
  ⟨h.len, World.ownsRow.kept h.keys (row := none) ⟨hb.os, hb.tape, hb.output, hb.size, fun k hk _ => hb.block k hk⟩ (by cases h : v6.ownBlock <;> simp),
    World.ownsRow.kept h.texts (row := none) ⟨hb.os, hb.tape, hb.output, hb.size, fun k hk _ => hb.block k hk⟩ (by cases h : v7.ownBlock <;> simp), h.apart⟩

theorem kt_at {l : List KT} {k : Nat} (h : k < l.length) : l[k]? = some (ktAt l k) := by
  unfold ktAt
  rw [List.getElem?_eq_getElem h]; rfl

theorem KO.facts {w : World} {B n g6 c6 g7 c7 : Nat} {l : List KT} (h : KO w B (.slice (some ⟨g6, 0, none⟩) n c6) (.slice (some ⟨g7, 0, none⟩) n c7) n l) (j : Nat) (hj : j < n) :
    w.cell? ⟨g6, j, none⟩ = some (.string (ktAt l j).key) ∧ w.cell? ⟨g7, j, none⟩ = some (.string (ktAt l j).text) ∧ w.frozen? ⟨g6, j, none⟩ = false ∧ w.frozen? ⟨g7, j, none⟩ = false := by
  have hl := h.len
  have e := kt_at (l := l) (k := j) (by omega)
  have h6 := World.ownsRow.cellAt h.keys j (by omega)
  have h7 := World.ownsRow.cellAt h.texts j (by omega)
  rw [List.getElem?_map, List.getElem?_map, e] at h6 h7
  exact ⟨h6, h7, World.ownsRow.frozenAt h.keys j, World.ownsRow.frozenAt h.texts j⟩

theorem KO.ne {w : World} {B n g6 c6 g7 c7 : Nat} {l : List KT} (h : KO w B (.slice (some ⟨g6, 0, none⟩) n c6) (.slice (some ⟨g7, 0, none⟩) n c7) n l) : g6 ≠ g7 := by
  rcases h.apart with c | c
  · cases c
  · exact fun e => c (by rw [e]; rfl)

/-- A key laid anew, the text not yet. -/
theorem KO.half {w : World} {B n g6 c6 g7 c7 : Nat} {l : List KT} (h : KO w B (.slice (some ⟨g6, 0, none⟩) n c6) (.slice (some ⟨g7, 0, none⟩) n c7) n l) (i : Nat) (x : ByteArray) :
    ∀ j, j < n → (w.setCell ⟨g6, i, none⟩ (.string x)).cell? ⟨g7, j, none⟩ = some (.string (ktAt l j).text) ∧ (w.setCell ⟨g6, i, none⟩ (.string x)).frozen? ⟨g7, j, none⟩ = false := by
  intro j hj
  have s6 := World.ownsRow.stored h.keys i (.string x)
  have k7 := World.ownsRow.kept h.texts s6.2 (by
    rcases h.apart with c | c
    · cases c
    · exact .inr fun e => c e.symm)
  have hl := h.len
  have h7 := World.ownsRow.cellAt k7 j (by omega)
  rw [List.getElem?_map, List.getElem?_map, kt_at (l := l) (k := j) (by omega)] at h7
  exact ⟨h7, World.ownsRow.frozenAt k7 j⟩

theorem KO.put {w : World} {B n g6 c6 g7 c7 : Nat} {l : List KT} (h : KO w B (.slice (some ⟨g6, 0, none⟩) n c6) (.slice (some ⟨g7, 0, none⟩) n c7) n l) (i : Nat) (x : KT) :
    KO ((w.setCell ⟨g6, i, none⟩ (.string x.key)).setCell ⟨g7, i, none⟩ (.string x.text)) B (.slice (some ⟨g6, 0, none⟩) n c6) (.slice (some ⟨g7, 0, none⟩) n c7) n (l.set i x) := by
  have s6 := World.ownsRow.stored h.keys i (.string x.key)
  have k7 := World.ownsRow.kept h.texts s6.2 (by
    rcases h.apart with c | c
    · cases c
    · exact .inr fun e => c e.symm)
  have s7 := World.ownsRow.stored k7 i (.string x.text)
  have k6 := World.ownsRow.kept s6.1 s7.2 h.apart
  refine ⟨by simp [h.len], ?_, ?_, h.apart⟩
  · simpa [List.map_set] using k6
  · simpa [List.map_set] using s7.1

theorem KO.below_put {w u : World} {B g6 g7 i : Nat} {x y : Value} (h : Below B w u) (h6 : B ≤ g6) (h7 : B ≤ g7) : Below B w ((u.setCell ⟨g6, i, none⟩ x).setCell ⟨g7, i, none⟩ y) := (h.setCell h6 _).setCell h7 _

def SoR (W : World) (L : List KT) (n : Nat) (v6 v7 i : Value) (wr : World) : Prop :=
  ∃ k : Nat, k ≤ n ∧ i = .int .i64 k ∧ KO wr W.heap.size v6 v7 k (insK L k) ∧ Below W.heap.size W wr
def SiR (W : World) (x : KT) (goal : List KT) (n : Nat) (v6 v7 at_ : Value) (wr : World) : Prop :=
  ∃ (j : Nat) (arr : List KT), j < n ∧ at_ = .int .i64 j ∧ KO wr W.heap.size v6 v7 n arr ∧ bubK (arr.set j x) j = goal ∧ Below W.heap.size W wr

theorem Strs.sliceS {w : World} {B : Nat} {v : Value} {ss : List ByteArray} (h : Strs w B v ss) :
    ∃ a c, v = .slice a ss.length c ∧ ∀ k x, ss[k]? = some x → ∃ g, a = some ⟨g, 0, none⟩ ∧ g < w.heap.size ∧ w.cell? ⟨g, k, none⟩ = some (.string x) := by
  rcases h.form with ⟨rfl, rfl⟩ | ⟨g, cap, rfl, _, _⟩
  · exact ⟨_, _, rfl, fun k x hx => by simp at hx⟩
  · exact ⟨_, _, rfl, fun k x hx => ⟨g, rfl, (World.ownsRow.lt h g rfl).2, Strs.cell h k x hx⟩⟩

theorem cellT_at (w : World) (n : Nat) (x : ByteArray) (t : TypeId) (hn : n = w.heap.size) : ∀ j u, [Value.string x][j]? = some u → (w.alloc (.cells #[.string x] t)).cell? ((⟨n, 0, none⟩ : Addr).add j) = some u := by
  subst hn
  intro j u hj
  match j, hj with
  | 0, hj => simp at hj; subst hj; simp [Addr.add]

set_option maxRecDepth 100000 in
set_option maxHeartbeats 4000000 in
theorem specSort_any {w : World} {B B' : Nat} {ve vl : Value} {es : List Ent} {sh : Bool} {lv : Int} (ss : List ByteArray) (hE : Ents w B ve es) (hr : ∀ e ∈ es, e.runes.length ≤ 1048576) (hL : Strs w B' vl ss) (hsz : ∀ s ∈ ss, s.size ≤ 1048576) (hln : ss.length ≤ 1048576) :
    Calls Tryz.prog 15 #[.agg #[ve, .bool sh, .int .i64 lv], vl] w fun e w' => ∃ v', e = .returned (.tuple #[v', .bool (okS es lv ss)]) ∧ Strs w' w.heap.size v' (sortS es sh lv ss) ∧ Below w.heap.size w w' := by
  obtain ⟨va, vc, rfl⟩ := ents_slice hE
  obtain ⟨la, lc, rfl, hcL⟩ := hL.sliceS
  obtain ⟨i0, hi0, hz0, hs0, hy0⟩ := info_parts info_str
  have hbx : Below w.heap.size w (w.alloc (.cells #[.slice va es.length vc, .bool sh, .int .i64 lv] 25)) := (Below.refl _ _).alloc (Nat.le_refl _) _
  have hbox : BoxS (w.alloc (.cells #[.slice va es.length vc, .bool sh, .int .i64 lv] 25)) w.heap.size (.slice va es.length vc) sh lv := heap_alloc_new w _
  have hlb : w.heap.size < (w.alloc (.cells #[.slice va es.length vc, .bool sh, .int .i64 lv] 25)).heap.size := by simp
  have GR := good3_any (sh := sh) (lv := lv) (hE.below hbx) hr
  have HE : Hid (Ents _ _ _ _) := hE
  have HCL : Hid _ := hcL
  have HSZ : Hid (∀ s ∈ ss, s.size ≤ 1048576) := hsz
  clear hE hL hcL hsz
  by_cases h60 : 60 < ss.length
  · have h608 : (60 : Int) < (ss.length : Int) := by omega
    have h609 : decide ((60 : Int) < (ss.length : Int)) = true := decide_eq_true h608
    have hf := okS_long (es := es) (lv := lv) h60
    unfold sortS
    rw [hf, if_neg (by simp)]
    clear hf GR
    go_enter Tryz.func15, Tryz.ntmps15
    go_wp2
    go_ret2
    exact ⟨_, rfl, ⟨rfl, .inl ⟨rfl, rfl⟩⟩, hbx⟩
  · have h608 : ¬ (60 : Int) < (ss.length : Int) := by omega
    have h609 : decide ((60 : Int) < (ss.length : Int)) = false := decide_eq_false h608
    cases hro : rulesOk es lv
    · rw [hro] at GR
      have hf := okS_rules (ss := ss) hro
      unfold sortS
      rw [hf, if_neg (by simp)]
      clear hf hro
      go_enter Tryz.func15, Tryz.ntmps15
      go_wp2_with fail
      refine GR.mono ?_
      rintro e w2 ⟨rfl, b2⟩
      clear GR
      go_wp2
      go_ret2
      exact ⟨_, rfl, ⟨rfl, .inl ⟨rfl, rfl⟩⟩, hbx.trans (b2.mono hbx.size)⟩
    · rw [hro] at GR
      have KY := fun (u : World) (hu : Below w.heap.size w u) (x : ByteArray) (hx : x.size ≤ 1048576) => specKey_any (sh := sh) (lv := lv) x hx (HE.out.below hu) hr
      have KY2 : ∀ (u : World) (hu : Below w.heap.size w u) (x : ByteArray) (hx : x.size ≤ 1048576), Calls Tryz.prog 24 #[.agg #[.slice va es.length vc, .bool sh, .int .i64 lv], .string x] u fun e w' => e = .returned (.tuple #[.string (keyT es sh lv x), .bool (ok4 x)]) ∧ Below u.heap.size u w' := fun u hu x hx => by
        have := KY u hu x hx
        rw [okE_rules x hro] at this
        exact this
      have HKY : Hid _ := KY2
      have HRO : Hid (rulesOk es lv = true) := hro
      clear KY KY2 hro
      obtain ⟨W0, HW0⟩ : ∃ W0, Hid (W0 = w.alloc (.cells #[.slice va es.length vc, .bool sh, .int .i64 lv] 25)) := ⟨_, rfl⟩
      rw [← HW0.out] at hbx hbox hlb GR
      go_enter Tryz.func15, Tryz.ntmps15
      go_wp2_with fail
      rw [← HW0.out]
      obtain ⟨c0, c1, c2⟩ := hbox.cells
      refine GR.mono ?_
      rintro e W ⟨rfl, bW⟩
      have HBO : Hid (BoxS W w.heap.size (.slice va es.length vc) sh lv) := hbox.below bW hlb
      have HBW : Hid (Below w.heap.size w W) := hbx.trans (bW.mono hbx.size)
      have hwW : w.heap.size < W.heap.size := Nat.lt_of_lt_of_le hlb bW.size
      obtain ⟨L, HL⟩ : ∃ L, Hid (ss.map (ktOf es sh lv) = L) := ⟨_, rfl⟩
      have hLl : L.length = ss.length := by rw [← HL.out, List.length_map]
      clear GR c0 c1 c2 hbox hbx bW HW0 hlb
      have HLL : Hid (L.length = ss.length) := hLl
      clear hLl
      go_wp2_with fail
      go_loopw [6, 7, 23] (fun v6 v7 i wr => (∀ j s, j < (intOf i).toNat → ss[j]? = some s → ok4 s = true) ∧ SoR W L ss.length v6 v7 i wr) (fun _ _ i _ => ss.length - (intOf i).toNat)
      case atStart => exact ⟨fun j s hj => by simp [intOf] at hj, 0, Nat.zero_le _, rfl, ⟨rfl, World.ownsRow_nil _ _ _ _, World.ownsRow_nil _ _ _ _, .inl rfl⟩, Below.refl _ _⟩
      case round =>
        obtain ⟨hgd, k, hk, rfl, hKO, hbw⟩ := hrel
        have HGD : Hid (∀ j s, j < k → ss[j]? = some s → ok4 s = true) := fun j s hj hs => hgd j s (by simpa [intOf] using hj) hs
        clear hgd
        have hsz1 := hbw.size
        by_cases hlt : k < ss.length
        · obtain ⟨x, hx⟩ : ∃ x, ss[k]? = some x := ⟨_, List.getElem?_eq_getElem hlt⟩
          obtain ⟨g, rfl, hgl, y0⟩ := HCL.out k x hx
          have a0 : wr.cell? ⟨g, k, none⟩ = some (.string x) := ((HBW.out.trans (hbw.mono HBW.out.size)).cell (p := ⟨g, k, none⟩) hgl).trans y0
          have hk8 : (k : Int) < (ss.length : Int) := by omega
          obtain ⟨c0, c1, c2⟩ := (HBO.out.below hbw hwW).cells
          have K1 := HKY.out wr (HBW.out.trans (hbw.mono HBW.out.size)) x (HSZ.out x (List.mem_of_getElem? hx))
          have HX : Hid (ss[k]? = some x) := hx
          clear hx y0
          cases hok : ok4 x
          · rw [hok] at K1
            have hf := okS_bad (es := es) (lv := lv) HX.out hok
            have hf2 : sortS es sh lv ss = [] := by unfold sortS; rw [hf, if_neg (by simp)]
            have HF : Hid (okS es lv ss = false ∧ sortS es sh lv ss = []) := ⟨hf, hf2⟩
            clear hf hf2 hok hKO
            go_wp2_with fail
            refine K1.mono ?_
            rintro e w2 ⟨rfl, b2⟩
            have HB2 : Hid (Below w.heap.size w w2) := HBW.out.trans ((hbw.trans (b2.mono hbw.size)).mono HBW.out.size)
            clear K1 c0 c1 c2 a0 b2 hbw
            go_wp2
            go_ret2
            rw [HF.out.1, HF.out.2]
            exact ⟨_, rfl, ⟨rfl, .inl ⟨rfl, rfl⟩⟩, HB2.out⟩
          · rw [hok] at K1
            have HGD2 : Hid (∀ j s, j < k + 1 → ss[j]? = some s → ok4 s = true) := fun j s hj hs => by
              by_cases c : j = k
              · subst c
                rw [HX.out] at hs
                cases hs
                exact hok
              · exact HGD.out j s (by omega) hs
            have HKA : Hid (ktAt L k = ⟨keyT es sh lv x, x⟩) := by show _ = _; rw [← HL.out, ktAt_map HX.out]; rfl
            have hil := insK_len L k
            generalize keyT es sh lv x = kx at *
            have HKO : Hid (KO _ _ _ _ _ _) := hKO
            have HINS : Hid (insK L (k + 1) = bubK (insK L k ++ [⟨kx, x⟩]) k) := by show _ = _; rw [insK_succ, HKA.out]
            have hu6 : ∃ a6 c6, u6 = .slice a6 k c6 := by
              rcases hKO.keys.2 with ⟨h1, h2⟩ | ⟨g6, c6, cur, h1, _⟩
              · subst h2
                exact ⟨_, _, h1⟩
              · exact ⟨_, _, h1⟩
            obtain ⟨a6, c6, rfl⟩ := hu6
            clear hok HGD HX hKO HKA hil
            go_wp2_with fail
            refine K1.mono ?_
            rintro e w2 ⟨rfl, b2⟩
            have ko2 := HKO.out.below b2
            have hb2 := hbw.trans (b2.mono hbw.size)
            have hsz2 := hb2.size
            have ik := ko2.keys
            have it := ko2.texts
            have HAP : Hid _ := ko2.apart
            have HLEN : Hid ((insK L k).length = k) := ko2.len
            clear K1 c0 c1 c2 a0 b2 hbw ko2 HKO
            go_wp2_with (at_builtin; refine wpList_append_lies _ rfl _ _ 40 rfl W.heap.size 9 i0 (.string ⟨#[]⟩) 1 16 Tryz.underlying40 hi0 hz0 hs0 hy0 rfl (by decide) _ _ _ rfl (ik.alloc _) ⟨w2.heap.size, 0, none⟩ 1 1 [.string kx] rfl rfl (cellT_at _ _ _ _ (by simp)) (fun u hu => by simp at hu; subst hu; rfl) (by omega) (by unfold maxLen; omega) (by omega) (by simp; omega) (w2.heap.size + 1) (by simp) ?_)
            intro g6 cap6 w4 o4 gr4 hg4 hl4
            have it4 := World.ownsRow.kept (it.alloc (.cells #[.string kx] 9)) gr4 (by
              rcases HAP.out with c | c
              · cases c2 : u7.ownBlock with
                | none => exact .inl rfl
                | some b => exact .inr fun e => by rw [c] at e; cases e
              · exact .inr fun e => c e.symm)
            have hb4 : Below W.heap.size W w4 := Below.grown (hb2.alloc hb2.size _) gr4 (hb2.alloc hb2.size _).size (fun j hj => (World.ownsRow.lt ik j hj).1)
            have HN4 : Hid (∀ b, u7.ownBlock = some b → b ≠ g6) := fun b hb e => by
              have l7 := (World.ownsRow.lt it b hb).2
              rcases hg4 with c | c
              · rcases HAP.out with d | d
                · rw [d] at c; cases c
                · exact d (by rw [c, hb, e])
              · omega
            have hsz4 := hb4.size
            have O4 : Hid (World.ownsRow _ _ _ _ _ _ _) := o4
            have HB4 : Hid (Below _ _ _) := hb4
            clear ik it gr4 hg4 o4 hb2 hb4
            go_wp2_with (at_builtin; refine wpList_append_lies _ rfl _ _ 40 rfl W.heap.size 9 i0 (.string ⟨#[]⟩) 1 16 Tryz.underlying40 hi0 hz0 hs0 hy0 rfl (by decide) _ _ _ rfl (it4.alloc _) ⟨w4.heap.size, 0, none⟩ 1 1 [.string x] rfl rfl (cellT_at _ _ _ _ (by simp)) (fun u hu => by simp at hu; subst hu; rfl) (by omega) (by unfold maxLen; omega) (by omega) (by simp; omega) (w4.heap.size + 1) (by simp) ?_)
            intro g7 cap7 w5 o5 gr5 hg5 hl5
            have hb5 : Below W.heap.size W w5 := Below.grown (HB4.out.alloc HB4.out.size _) gr5 (HB4.out.alloc HB4.out.size _).size (fun j hj => (World.ownsRow.lt it4 j hj).1)
            have hne : g6 ≠ g7 := fun e => by
              rcases hg5 with c | c
              · exact HN4.out g7 c e.symm
              · omega
            have o45 := World.ownsRow.kept (World.ownsRow.alloc O4.out (.cells #[.string x] 9)) gr5 (.inr fun e => HN4.out g6 e.symm rfl)
            have ko5 : KO w5 W.heap.size (.slice (some ⟨g6, 0, none⟩) (k + 1) cap6) (.slice (some ⟨g7, 0, none⟩) (k + 1) cap7) (k + 1) (insK L k ++ [⟨kx, x⟩]) :=
              ⟨by simp [HLEN.out], by simpa using o45, by simpa using o5, .inr fun e => hne (Option.some.inj e)⟩
            have hG6 := (World.ownsRow.lt ko5.keys g6 rfl).1
            have hG7 := (World.ownsRow.lt ko5.texts g7 rfl).1
            have hst : SiR W ⟨kx, x⟩ (insK L (k + 1)) (k + 1) (.slice (some ⟨g6, 0, none⟩) (k + 1) cap6) (.slice (some ⟨g7, 0, none⟩) (k + 1) cap7) (.int .i64 k) w5 :=
              ⟨k, insK L k ++ [⟨kx, x⟩], by omega, rfl, ko5, by rw [HINS.out, List.set_append_right _ _ (by rw [HLEN.out]; exact Nat.le_refl _), HLEN.out, Nat.sub_self]; rfl, hb5⟩
            have HST : Hid (SiR _ _ _ _ _ _ _ _) := hst
            obtain ⟨goal, HGO⟩ : ∃ goal, Hid (insK L (k + 1) = goal) := ⟨_, rfl⟩
            rw [HGO.out] at HST
            clear hst ko5 o45 gr5 hg5 o5 hb5 it4 O4 HB4 HN4 HINS HAP HLEN hl4 hl5
            go_wp2_with fail
            go_loopw [12] (fun at_ wr => SiR W ⟨kx, x⟩ goal (k + 1) (.slice (some ⟨g6, 0, none⟩) (k + 1) cap6) (.slice (some ⟨g7, 0, none⟩) (k + 1) cap7) at_ wr) (fun at_ _ => (intOf at_).toNat)
            case atStart => exact HST.out
            case round =>
              clear HST
              obtain ⟨j, arr, hj, rfl, ko, hgoal, hbw⟩ := hrel
              have HG : Hid (bubK (arr.set j ⟨kx, x⟩) j = goal) := hgoal
              have hal := ko.len
              clear hgoal
              have hj8 : (j : Int) < (k : Int) + 1 := by omega
              cases j with
              | zero =>
                have HE0 : Hid (arr.set 0 ⟨kx, x⟩ = goal) := HG.out
                have HP : Hid (KO _ _ _ _ _ _) := ko.put 0 ⟨kx, x⟩
                have HBP : Hid (Below _ _ _) := KO.below_put (i := 0) (x := .string kx) (y := .string x) hbw hG6 hG7
                obtain ⟨f1, f2, f3, f4⟩ := ko.facts 0 hj
                obtain ⟨f5, f6⟩ := ko.half 0 kx 0 hj
                clear HG ko hbw
                go_wp2
                exact ⟨⟨fun j s hj hs => HGD2.out j s (by simp [intOf] at hj; omega) hs, k + 1, by omega, by go_num, by rw [HGO.out, ← HE0.out]; exact HP.out, HBP.out⟩, by simp [intOf]; omega⟩
              | succ p =>
                have hp1 : p < k + 1 := by omega
                have hw1 : IntKind.i64.wrap ((p : Int) + 1 - 1) = (p : Int) := by rw [IntKind.wrap_i64]; omega
                have hw2 : IntKind.i64.wrap (((p + 1 : Nat) : Int) - 1) = (p : Int) := by rw [IntKind.wrap_i64]; omega
                have hw3 : IntKind.i64.wrap (p : Int) = (p : Int) := by rw [IntKind.wrap_i64]; omega
                have hq1 : (p : Int) < (k : Int) + 1 := by omega
                have hq2 : (p : Int) + 1 < (k : Int) + 1 := by omega
                have hq3 : (0 : Int) < (p : Int) + 1 := by omega
                have hq4 : decide ((0 : Int) < (p : Int) + 1) = true := decide_eq_true hq3
                obtain ⟨f1, f2, f3, f4⟩ := ko.facts (p + 1) hj
                obtain ⟨e1, e2, _, _⟩ := ko.facts p hp1
                cases hgt : gtS (ktAt arr p).key kx
                · unfold gtS at hgt
                  cases hl : ltS (ktAt arr p).key kx
                  · have heq : ((ktAt arr p).key.toList == kx.toList) = true := by
                      rw [hl, Bool.false_or] at hgt
                      unfold eqS at hgt
                      simpa using hgt
                    have hlt2 : Op.bytesLess (ktAt arr p).key.toList kx.toList = false := hl
                    have hgt : gtS (ktAt arr p).key kx = false := by unfold gtS eqS; rw [heq]; simp
                    clear hl
                    have HE0 : Hid (arr.set (p + 1) ⟨kx, x⟩ = goal) := by show _ = _; rw [← hole_stop (by omega) hgt]; exact HG.out
                    have HP : Hid (KO _ _ _ _ _ _) := ko.put (p + 1) ⟨kx, x⟩
                    have HBP : Hid (Below _ _ _) := KO.below_put (i := p + 1) (x := .string kx) (y := .string x) hbw hG6 hG7
                    obtain ⟨f5, f6⟩ := ko.half (p + 1) kx (p + 1) hj
                    clear HG ko hgt hbw
                    go_wp2
                    exact ⟨⟨fun j s hj hs => HGD2.out j s (by simp [intOf] at hj; omega) hs, k + 1, by omega, by go_num, by rw [HGO.out, ← HE0.out]; exact HP.out, HBP.out⟩, by simp [intOf]; omega⟩
                  · have hlt2 : Op.bytesLess (ktAt arr p).key.toList kx.toList = true := hl
                    have hgt : gtS (ktAt arr p).key kx = false := by unfold gtS; rw [hl]; simp
                    clear hl
                    have HE0 : Hid (arr.set (p + 1) ⟨kx, x⟩ = goal) := by show _ = _; rw [← hole_stop (by omega) hgt]; exact HG.out
                    have HP : Hid (KO _ _ _ _ _ _) := ko.put (p + 1) ⟨kx, x⟩
                    have HBP : Hid (Below _ _ _) := KO.below_put (i := p + 1) (x := .string kx) (y := .string x) hbw hG6 hG7
                    obtain ⟨f5, f6⟩ := ko.half (p + 1) kx (p + 1) hj
                    clear HG ko hgt hbw
                    go_wp2
                    exact ⟨⟨fun j s hj hs => HGD2.out j s (by simp [intOf] at hj; omega) hs, k + 1, by omega, by go_num, by rw [HGO.out, ← HE0.out]; exact HP.out, HBP.out⟩, by simp [intOf]; omega⟩
                · have hgt2 := hgt
                  unfold gtS at hgt2
                  simp only [Bool.not_eq_true', Bool.or_eq_false_iff] at hgt2
                  have hlt2 : Op.bytesLess (ktAt arr p).key.toList kx.toList = false := hgt2.1
                  have heq : ((ktAt arr p).key.toList == kx.toList) = false := hgt2.2
                  have HE0 : Hid (bubK ((arr.set (p + 1) (ktAt arr p)).set p ⟨kx, x⟩) p = goal) := by show _ = _; rw [← hole_go (by omega) hgt]; exact HG.out
                  have HP : Hid (KO _ _ _ _ _ _) := ko.put (p + 1) (ktAt arr p)
                  have HBP : Hid (Below _ _ _) := KO.below_put (i := p + 1) (x := .string (ktAt arr p).key) (y := .string (ktAt arr p).text) hbw hG6 hG7
                  obtain ⟨f5, f6⟩ := ko.half (p + 1) (ktAt arr p).key (p + 1) hj
                  obtain ⟨f7, _⟩ := ko.half (p + 1) (ktAt arr p).key p hp1
                  clear HG ko hgt hgt2 hbw
                  go_wp2
                  exact ⟨⟨p, _, by omega, by go_num, HP.out, HE0.out, HBP.out⟩, by simp [intOf]⟩
        · have hk3 : k = ss.length := by omega
          subst hk3
          have hfin := okS_good (es := es) (lv := lv) (ss := ss) (by omega) HRO.out (fun j s hj hs => HGD.out j s hj hs)
          have hfin2 : sortS es sh lv ss = (insK L ss.length).map KT.text := by unfold sortS; rw [hfin, if_pos rfl, HL.out]
          have HF : Hid (okS es lv ss = true ∧ sortS es sh lv ss = (insK L ss.length).map KT.text) := ⟨hfin, hfin2⟩
          have HT : Hid (Strs wr w.heap.size u7 ((insK L ss.length).map KT.text)) := by
            show Strs _ _ _ _
            have h := hKO.texts
            unfold Strs
            rw [List.length_map, hKO.len]
            refine ⟨h.1, ?_⟩
            rcases h.2 with h | ⟨g, cap, cur, h1, h2, h3⟩
            · exact .inl h
            · exact .inr ⟨g, cap, cur, h1, Nat.le_trans HBW.out.size h2, h3⟩
          clear hfin hfin2 hKO HGD
          go_wp2
          go_ret2
          rw [HF.out.1, HF.out.2]
          exact ⟨_, rfl, HT.out, HBW.out.trans (hbw.mono HBW.out.size)⟩
end Go.Proofs.YtanfebccenfffaaGreatDoor

namespace Go.Proofs.YtanfebccenfffaaGreatDoor
open Go.RowKit

/-- What a draw of rules and texts gives. -/
def DrewS (w : World) (e : Ending) (w' : World) : Prop :=
  ∃ v es sh lv vl ss, e = .returned (.tuple #[.agg #[v, .bool sh, .int .i64 lv], vl]) ∧ Ents w' w.heap.size v es ∧ (∀ e ∈ es, e.runes.length ≤ 1048576) ∧ Strs w' w.heap.size vl ss ∧ ss.length ≤ 61 ∧ (∀ s ∈ ss, s.size ≤ 1048576) ∧ Below w.heap.size w w'

theorem strs_grown {u u' : World} {B b : Nat} {v : Value} {ss : List ByteArray} (h : Strs u B v ss) (hg : u.grownBy u' (some b)) (hb : b < B) : Strs u' B v ss := by
  refine World.ownsRow.kept h hg ?_
  cases c : v.ownBlock with
  | none => exact .inl rfl
  | some g =>
    refine .inr fun e => ?_
    have := (World.ownsRow.lt h g c).1
    have := Option.some.inj e
    omega

theorem strs_low {u : World} {B B' : Nat} {v : Value} {ss : List ByteArray} (h : Strs u B' v ss) (hB : B ≤ B') : Strs u B v ss := by
  obtain ⟨h1, h2⟩ := h
  refine ⟨h1, ?_⟩
  rcases h2 with h2 | ⟨g, cap, cur, a, b, c⟩
  · exact .inl h2
  · exact .inr ⟨g, cap, cur, a, by omega, c⟩

/-- A row of texts has grown. -/
theorem DcS.row {w u u' : World} {b k g2 g3 B2 B3 n : Nat} {v vl : Value} {es : List Ent} {sh : Bool} {lv : Int} {xs : List Value} (h : DcS w u b k g2 g3 B2 v es sh lv) (hl : u.ownsRow B3 9 1 vl n xs) (hB : g3 < B3) (hg : u.grownBy u' vl.ownBlock) : DcS w u' b k g2 g3 B2 v es sh lv := by
  obtain ⟨l0, l1, l2, l3, l4⟩ := h.lt
  have hv : ∀ j, vl.ownBlock = some j → B3 ≤ j := fun j hj => (World.ownsRow.lt hl j hj).1
  have e2 := hg.block g2 (by omega) (fun e => by have := hv g2 e.symm; omega)
  have e3 := hg.block g3 l4 (fun e => by have := hv g3 e.symm; omega)
  have k2 : ∀ j, u'.cell? ⟨g2, j, none⟩ = u.cell? ⟨g2, j, none⟩ := fun j => World.cell?_of_block (w := u) e2
  have k3 : ∀ j, u'.cell? ⟨g3, j, none⟩ = u.cell? ⟨g3, j, none⟩ := fun j => World.cell?_of_block (w := u) e3
  refine ⟨⟨l0, l1, l2, l3, Nat.lt_of_lt_of_le l4 hg.size⟩, ?_, ?_, fun j => by rw [frozen_block e2]; exact h.f2 j, h.cur.kept hg (fun j hj => by have := hv j hj; omega), ?_, Below.grown h.be hg h.be.size (fun j hj => by have := hv j hj; omega)⟩
  · rw [k2, k2, k2]; exact h.c2
  · rw [k3, k3, k3]; exact h.c3
  · obtain ⟨xs, hxl, h1, h2⟩ := h.en
    have ap : ∀ {e size m : Nat} {p : Value} {ys : List Value}, e ≠ 9 → u.ownsRow B2 e size p m ys → p.ownBlock = none ∨ p.ownBlock ≠ vl.ownBlock := fun {e size m p ys} hne hp => by
      rcases hp.2 with ⟨rfl, _⟩ | ⟨g, cap, cur, rfl, _, hgp, _⟩
      · exact .inl rfl
      · refine .inr fun c => ?_
        rcases hl.2 with ⟨rfl, _⟩ | ⟨g', cap', cur', rfl, _, hgl, _⟩
        · cases c
        · have : g = g' := Option.some.inj c
          subst this
          rw [hgp] at hgl
          injection hgl with q1
          injection q1 with _ q2
          exact hne q2
    refine ⟨xs, hxl, World.ownsRow.kept h1 hg (ap (by decide) h1), fun k e he => ?_⟩
    obtain ⟨x, hx, hI⟩ := h2 k e he
    exact ⟨x, hx, World.ownsRow.kept hI hg (ap (by decide) hI)⟩

def DsRel (w : World) (b g2 g3 B2 : Nat) (v : Value) (es : List Ent) (sh : Bool) (lv : Int) (vl n : Value) (wr : World) : Prop :=
  ∃ (j k : Nat) (ss : List ByteArray), n = .int .i64 j ∧ ss.length + j ≤ 61 ∧ k + 60 * j ≤ 10000 ∧ Strs wr (g3 + 1) vl ss ∧ (∀ s ∈ ss, s.size ≤ 1048576) ∧ DcS w wr b k g2 g3 B2 v es sh lv

set_option maxRecDepth 100000 in
set_option maxHeartbeats 4000000 in
theorem drawSortT_any (w : World) (a : Option Addr) (n cap : Nat) (hn : n ≤ 1048576) (h : Came w a n) :
    Calls Tryz.prog 13 #[.slice a n cap] w fun e w' => DrewS w e w' := by
  obtain ⟨i0, hi, hz0, hz1, hz2⟩ := info_parts info_str
  have hbs : (w.alloc (.cells #[.slice none 0 0, .bool false, .int .i64 0] 25)).heap.size = w.heap.size + 1 := by simp
  have hC0 := cur_new (w.alloc (.cells #[.slice none 0 0, .bool false, .int .i64 0] 25)) a n cap hn (h.below ((Below.refl _ _).alloc (Nat.le_refl _) _))
  rw [hbs] at hC0
  have R := rules_any _ _ _ 0 hC0 (by omega)
  clear h hC0
  go_enter Tryz.func13, Tryz.ntmps13
  go_wp2_with fail
  refine R.mono ?_
  rintro e w2 ⟨v1, es, sh, lv, rfl, e2, hbd, ⟨⟨k2, hk2, hC2⟩, hg2⟩⟩
  obtain ⟨va, vc, rfl⟩ := ents_slice e2
  have HS : Hid (DcS _ _ _ _ _ _ _ _ _ _ _) := dc_start (sh := sh) (lv := lv) hbs.symm hC2 hg2 e2
  have HBD : Hid (∀ e ∈ es, e.runes.length ≤ 1048576) := fun e he => Nat.le_trans (hbd e he) (by decide)
  clear R e2 hg2 hC2 hbd hbs
  have P3 := pick_any _ _ _ _ HS.out.cur (by omega) 8 (by omega) (by omega)
  go_wp2_with fail
  refine P3.mono ?_
  rintro e w3 ⟨q, rfl, q0, q1, hM⟩
  obtain ⟨k3, hk3, S3⟩ := HS.out.moved hM
  have HS3 : Hid (DcS _ _ _ _ _ _ _ _ _ _ _) := S3
  obtain ⟨q, rfl⟩ := Int.eq_ofNat_of_zero_le q0
  have hq7 : q ≤ 7 := by omega
  clear P3 hM HS S3 q0 q1
  have O4 := oneIn_any _ _ _ _ HS3.out.cur (by omega) 30 (by omega) (by omega)
  go_wp2_with fail
  refine O4.mono ?_
  rintro e w4 ⟨bo, rfl, hM⟩
  obtain ⟨k4, hk4, S4⟩ := HS3.out.moved hM
  have HS4 : Hid (DcS _ _ _ _ _ _ _ _ _ _ _) := S4
  clear O4 hM HS3 S4
  go_upto_if 16 with fail
  go_cut [7] from 17 to 19 (fun m wx => ∃ j k : Nat, m = .int .i64 j ∧ j ≤ 61 ∧ k ≤ 3000 ∧ DcS w wx (w.heap.size + 1) k w.heap.size w2.heap.size (w.heap.size + 1 + 1) (.slice va es.length vc) es sh lv)
  case first =>
    cases bo
    · go_wp2
      go_meet
      case rel => exact ⟨q, k4, rfl, by omega, by omega, HS4.out⟩
    · have P5 := pick_any _ _ _ _ HS4.out.cur (by omega) 2 (by omega) (by omega)
      go_wp2_with fail
      refine P5.mono ?_
      rintro e w5 ⟨r, rfl, r0, r1, hM⟩
      obtain ⟨k5, hk5, S5⟩ := HS4.out.moved hM
      have HS5 : Hid (DcS _ _ _ _ _ _ _ _ _ _ _) := S5
      obtain ⟨r, rfl⟩ := Int.eq_ofNat_of_zero_le r0
      have hr1 : r ≤ 1 := by omega
      clear P5 hM HS4 S5 r0 r1
      go_wp2
      go_meet
      case rel => exact ⟨60 + r, k5, by go_num, by omega, by omega, HS5.out⟩
  case rest =>
    clear HS4
    obtain ⟨j0, k0, hj0, hj1, hk0, hS0⟩ := hcut
    have HS0 : Hid (DcS _ _ _ _ _ _ _ _ _ _ _) := hS0
    subst hj0
    clear hS0
    go_wp2_with fail
    go_loopw [6, 7] (fun vl m wr => DsRel w (w.heap.size + 1) w.heap.size w2.heap.size (w.heap.size + 1 + 1) (.slice va es.length vc) es sh lv vl m wr) (fun _ m _ => (intOf m).toNat)
    case atStart => exact ⟨j0, k0, [], rfl, by simpa using hj1, by omega, ⟨rfl, .inl ⟨rfl, rfl⟩⟩, fun s hs => (by cases hs), HS0.out⟩
    case round =>
      clear HS0
      obtain ⟨j, k, ss, rfl, hsl, hk, hL, hsz, hS⟩ := hrel
      have HSZ : Hid (∀ s ∈ ss, s.size ≤ 1048576) := hsz
      clear hsz
      obtain ⟨l0, l1, l2, l3, l4⟩ := hS.lt
      by_cases hj : 0 < j
      · have T := text_any _ _ _ _ hS.cur (by omega)
        have hj8 : (0 : Int) < (j : Int) := by omega
        have HS1 : Hid (DcS _ _ _ _ _ _ _ _ _ _ _) := hS
        clear hS
        go_wp2_with fail
        refine T.mono ?_
        rintro e w5 ⟨t, rfl, ht, hM⟩
        have hg := hM.2
        obtain ⟨k5, hk5, S5⟩ := HS1.out.moved hM
        have hL5 := strs_grown hL hg (by omega)
        have hgs := hg.size
        have bA := (Below.refl w5.heap.size w5).alloc (Nat.le_refl _) (.cells #[.string t] 9)
        have S6 := S5.below bA
        unfold Strs at hL5
        clear T hM HS1 hL
        go_wp2_with (at_builtin; refine wpList_append_own _ rfl _ _ 40 rfl (w2.heap.size + 1) 9 i0 (.string ⟨#[]⟩) 1 16 Tryz.underlying40 hi hz0 hz1 hz2 rfl (by decide) _ _ _ rfl (hL5.alloc _) ⟨_, 0, none⟩ 1 1 [.string t] rfl rfl (cell_one_new _ _ _) (fun x hx => by simp at hx; subst hx; rfl) (by unfold maxLen; omega) (by omega) (by simp; omega) ?_; intro v' w7 hown' hgrow7 _)
        have S7 := S6.row (hL5.alloc _) (by omega) hgrow7
        refine ⟨⟨j - 1, k5, ss ++ [t], by go_num, by simp; omega, by omega, Strs.snoc hown', fun s hs => ?_, S7⟩, by simp [intOf]; omega⟩
        rcases List.mem_append.1 hs with h | h
        · exact HSZ.out s h
        · simp at h; subst h; omega
      · have hj8 : ¬ (0 : Int) < (j : Int) := by omega
        obtain ⟨p0, p1, p2⟩ := hS.c3
        obtain ⟨r0, r1, r2⟩ := hS.c2
        have f2 := hS.f2
        obtain ⟨d1, d2⟩ := hS.done
        have HD1 : Hid (Ents _ _ _ _) := d1
        have HD2 : Hid (Below _ _ _) := d2
        have gg := ((setCell_grown wr w.heap.size 0 (.slice va es.length vc)).trans (setCell_grown _ w.heap.size 1 (.bool sh))).trans (setCell_grown _ w.heap.size 2 (.int .i64 lv))
        have HL : Hid (Strs _ _ _ _) := strs_low (strs_grown hL gg (by omega)) (show w.heap.size ≤ w2.heap.size + 1 by omega)
        clear hS d1 d2 gg hL
        go_wp2
        refine bodyPost_ret (v := .tuple #[.agg #[.slice va es.length vc, .bool sh, .int .i64 lv], u6]) ?_ rfl ⟨_, es, sh, lv, u6, ss, rfl, HD1.out, HBD.out, HL.out, by omega, HSZ.out, HD2.out⟩
        rw [results_cell_tmp rfl]
        go_simp
end Go.Proofs.YtanfebccenfffaaGreatDoor

namespace Go.Proofs.YtanfebccenfffaaGreatDoor
open Go.RowKit

theorem strs_some {w : World} {B : Nat} {v : Value} {ss : List ByteArray} (h : Strs w B v ss) (h0 : 0 < ss.length) : ∃ g c, v = .slice (some ⟨g, 0, none⟩) ss.length c ∧ g < w.heap.size ∧ ∀ u, Below w.heap.size w u → ∀ (j : Nat) (y : ByteArray), ss[j]? = some y → u.cell? ⟨g, j, none⟩ = some (.string y) := by
  rcases h.form with ⟨rfl, rfl⟩ | ⟨g, cap, rfl, _, _⟩
  · simp at h0
  · exact ⟨g, cap, rfl, (World.ownsRow.lt h g rfl).2, fun u hu j y hy => (h.below hu).cell j y hy⟩

theorem ne_text {a b : ByteArray} (h : ¬ a = b) : (a.toList == b.toList) = false := by
  rw [ByteArray.toList_eq, ByteArray.toList_eq]
  cases c : (a.data.toList == b.data.toList)
  · rfl
  · exact absurd (ByteArray.ext (Array.toList_inj.1 (by simpa using c))) h

theorem strs_zero {w : World} {B : Nat} {v : Value} {ss : List ByteArray} (h : Strs w B v ss) : ∃ a c, v = .slice a ss.length c := by
  obtain ⟨a, c, e, _⟩ := h.sliceS
  exact ⟨a, c, e⟩

set_option maxRecDepth 100000 in
set_option maxHeartbeats 4000000 in
theorem sorted_walk (w : World) (a0 : Option Addr) (len0 cap0 : Nat) (ht : Tabs3 w) (hmx : len0 ≤ 9223372036854775807)
    (D : len0 ≤ 1048576 → Calls Tryz.prog 13 #[.slice a0 len0 cap0] w fun e w' => DrewS w e w') :
    Calls Tryz.prog 4 #[.slice a0 len0 cap0] w fun e w' => e = .returned (.bool true) ∧ Below w.heap.size w w' := by
  by_cases h1 : 1048576 < len0
  · have h18 : (1048576 : Int) < (len0 : Int) := by omega
    clear D
    go_enter Tryz.func4, Tryz.ntmps4
    go_wp2
    go_ret
    exact ⟨rfl, Below.refl _ _⟩
  have h18 : ¬ (1048576 : Int) < (len0 : Int) := by omega
  have D1 := D (by omega)
  have HT : Hid (Tabs3 w) := ht
  clear D ht
  go_enter Tryz.func4, Tryz.ntmps4
  go_wp2_with fail
  refine D1.mono ?_
  rintro e w1 ⟨v1, es, sh, lv, vl, ss, rfl, e1, hr, hL, hsl, hsz, b1⟩
  obtain ⟨va, vc, rfl⟩ := ents_slice e1
  have b12 := (Below.refl w1.heap.size w1).alloc (Nat.le_refl _) (.cells #[.slice va es.length vc, .bool sh, .int .i64 lv] 25)
  have hbox : BoxS (w1.alloc (.cells #[.slice va es.length vc, .bool sh, .int .i64 lv] 25)) w1.heap.size (.slice va es.length vc) sh lv := heap_alloc_new w1 _
  have hlb : w1.heap.size < (w1.alloc (.cells #[.slice va es.length vc, .bool sh, .int .i64 lv] 25)).heap.size := by simp
  obtain ⟨W, HW⟩ : ∃ W, Hid (W = w1.alloc (.cells #[.slice va es.length vc, .bool sh, .int .i64 lv] 25)) := ⟨_, rfl⟩
  rw [← HW.out] at b12 hbox hlb
  have HE : Hid (Ents W _ (.slice va es.length vc) es) := e1.below b12
  have HB2 : Hid (Below w.heap.size w W) := b1.trans (b12.mono b1.size)
  have HTW : Hid (Tabs3 W) := HT.out.below HB2.out
  have HL : Hid (Strs W _ vl ss) := hL.below b12
  have IC := fun (u : World) (hu : Below W.heap.size W u) (p q : ByteArray) (hp : p.size ≤ 1048576) (hq : q.size ≤ 1048576) => implCmp_any (sh := sh) (lv := lv) p hp q hq (HE.out.below hu) hr (HTW.out.below hu)
  have IS := implSort_any (sh := sh) (lv := lv) ss HE.out hr HTW.out HL.out hsz (by omega)
  have SS := fun (u : World) (hu : Below W.heap.size W u) => specSort_any (sh := sh) (lv := lv) ss (HE.out.below hu) hr (HL.out.below hu) hsz (by omega)
  have HBX : Hid (BoxS _ _ _ _ _) := hbox
  have HQ : Hid (∀ (i : Nat) (x y : ByteArray), (sortS es sh lv ss)[i]? = some x → (sortS es sh lv ss)[i + 1]? = some y → okE es lv x = true ∧ okE es lv y = true ∧ cmpT es sh lv x y ≤ 0) := fun i x y hx hy => sortS_srt hx hy
  have HP : Hid (okS es lv ss = true → (sortS es sh lv ss).Perm ss) := fun h => sortS_perm h
  have HN : Hid (okS es lv ss = false → sortS es sh lv ss = []) := fun h => sortS_no h
  have hl60 := sortS_len es sh lv ss
  have HIC : Hid _ := IC
  have HSZ : Hid (∀ s ∈ ss, s.size ≤ 1048576) := hsz
  generalize sortS es sh lv ss = L at *
  obtain ⟨ok, HOK⟩ : ∃ ok, Hid (okS es lv ss = ok) := ⟨_, rfl⟩
  rw [HOK.out] at IS SS
  have HP2 : Hid (ok = true → L.Perm ss) := by rw [← HOK.out]; exact HP.out
  have HN2 : Hid (ok = false → L = []) := by rw [← HOK.out]; exact HN.out
  clear HOK HP HN
  obtain ⟨p0, p1, p2⟩ := hbox.cells
  clear D1 e1 b1 b12 hbox HT IC hr hL hsz
  go_wp2_with fail
  rw [← HW.out]
  refine IS.mono ?_
  rintro e w3 ⟨v5, rfl, s5, b3⟩
  obtain ⟨p0, p1, p2⟩ := (HBX.out.below b3 hlb).cells
  have S3 := SS w3 b3
  have H5 : Hid (Strs _ _ _ _) := s5
  have H3 : Hid (Below _ _ _) := b3
  clear IS SS s5 b3
  go_wp2_with fail
  refine S3.mono ?_
  rintro e w4 ⟨v7, rfl, s7, b4'⟩
  have H54 : Hid (Strs w4 _ v5 L) := H5.out.below b4'
  have H4 : Hid (Below W.heap.size W w4) := H3.out.trans (b4'.mono H3.out.size)
  have HL4 : Hid (Strs w4 _ vl ss) := HL.out.below H4.out
  have H74 : Hid (Strs w4 _ v7 L) := s7
  have HX4 : Hid (BoxS w4 _ _ _ _) := HBX.out.below H4.out hlb
  have hl4 : w1.heap.size < w4.heap.size := Nat.lt_of_lt_of_le hlb H4.out.size
  clear S3 H5 H3 HL HBX s7 b4' p0 p1 p2
  by_cases h0 : L.length = 0
  · obtain ⟨a5, c5, rfl⟩ := strs_zero H54.out
    obtain ⟨a7, c7, rfl⟩ := strs_zero H74.out
    obtain ⟨al, cl, rfl⟩ := strs_zero HL4.out
    have HS0 : Hid (ok = true → ss.length = 0) := fun h => by have := (HP2.out h).length_eq; omega
    clear H54 H74 HL4 HX4 HP2 HN2 HQ HIC HSZ
    rw [h0]
    cases ok
    · go_wp2_with fail
      go_loop [51] (fun i => i = .int .i64 0) (fun _ => 0)
      case atStart => rfl
      case round =>
        subst hrel
        go_wp2
        go_ret
        exact ⟨rfl, HB2.out.trans (H4.out.mono HB2.out.size)⟩
    · rw [HS0.out rfl]
      go_wp2_with fail
      go_loop [51] (fun i => i = .int .i64 0) (fun _ => 0)
      case atStart => rfl
      case round =>
        subst hrel
        go_wp2
        go_ret
        exact ⟨rfl, HB2.out.trans (H4.out.mono HB2.out.size)⟩
  · cases hok : ok
    · exact absurd (by rw [HN2.out hok]; rfl) h0
    · subst hok
      have hp := HP2.out rfl
      have hle := hp.length_eq
      have HC : Hid (∀ t, cntS t L = cntS t ss) := fun t => cntS_perm hp
      have HM : Hid (∀ x ∈ L, x.size ≤ 1048576) := fun x hx => HSZ.out x (hp.mem_iff.1 hx)
      obtain ⟨g5, c5, rfl, hg5, q5⟩ := strs_some H54.out (by omega)
      obtain ⟨g7, c7, rfl, hg7, q7⟩ := strs_some H74.out (by omega)
      obtain ⟨gl, cl, rfl, hgl, ql⟩ := strs_some HL4.out (by omega)
      rw [← hle]
      have HQ5 : Hid (∀ u, Below w4.heap.size w4 u → ∀ (j : Nat) (y : ByteArray), L[j]? = some y → u.cell? ⟨g5, j, none⟩ = some (.string y)) := q5
      have HQ7 : Hid (∀ u, Below w4.heap.size w4 u → ∀ (j : Nat) (y : ByteArray), L[j]? = some y → u.cell? ⟨g7, j, none⟩ = some (.string y)) := q7
      have HQL : Hid (∀ u, Below w4.heap.size w4 u → ∀ (j : Nat) (y : ByteArray), ss[j]? = some y → u.cell? ⟨gl, j, none⟩ = some (.string y)) := ql
      have HLE : Hid (L.length = ss.length) := hle
      clear H54 H74 HL4 HP2 HN2 HSZ hp hle q5 q7 ql
      go_wp2_with fail
      go_loopw [51] (fun i wr => ∃ k : Nat, k ≤ L.length ∧ i = .int .i64 k ∧ Below w4.heap.size w4 wr) (fun i _ => L.length - (intOf i).toNat)
      case atStart => exact ⟨0, Nat.zero_le _, rfl, Below.refl _ _⟩
      case round =>
        obtain ⟨k, hk, rfl, hbr⟩ := hrel
        by_cases hlt : k < L.length
        · obtain ⟨t, hx⟩ : ∃ t, L[k]? = some t := ⟨_, List.getElem?_eq_getElem hlt⟩
          have c0 := HQ5.out wr hbr k t hx
          have c1 := HQ7.out wr hbr k t hx
          have hlt8 : (k : Int) < (L.length : Int) := by omega
          have HBR : Hid (Below _ _ _) := hbr
          have HX : Hid (L[k]? = some t) := hx
          clear hbr hx
          go_upto_if 63 with fail
          go_cut [11, 12, 51] from 64 to 80 (fun _ _ i wx => i = .int .i64 k ∧ Below w4.heap.size w4 wx)
          case first =>
            by_cases hk0 : k = 0
            · subst hk0
              go_wp2
              go_meet
              case rel => exact ⟨rfl, HBR.out⟩
            · obtain ⟨p, rfl⟩ : ∃ p, k = p + 1 := ⟨k - 1, by omega⟩
              obtain ⟨s, hs⟩ : ∃ s, L[p]? = some s := ⟨_, List.getElem?_eq_getElem (by omega)⟩
              obtain ⟨o1, o2, hc⟩ := HQ.out p s t hs HX.out
              have hsz1 := HM.out s (List.mem_of_getElem? hs)
              have hsz2 := HM.out t (List.mem_of_getElem? HX.out)
              have MK := fun (u : World) (hu : Below w4.heap.size w4 u) => (⟨(HX4.out.below hu hl4).cells.1, (HX4.out.below hu hl4).cells.2.1, (HX4.out.below hu hl4).cells.2.2, HQ5.out u hu p s hs, hu⟩ : u.cell? ⟨w1.heap.size, 0, none⟩ = some (.slice va es.length vc) ∧ u.cell? ⟨w1.heap.size, 1, none⟩ = some (.bool sh) ∧ u.cell? ⟨w1.heap.size, 2, none⟩ = some (.int .i64 lv) ∧ u.cell? ⟨g5, p, none⟩ = some (.string s) ∧ Below w4.heap.size w4 u)
              have hS := MK wr HBR.out
              have hS2 := MK wr.drew HBR.out.drew
              have K := fun (u1 u2 : World) (hb : Below u1.heap.size u1 u2) (hu : u1.cell? ⟨w1.heap.size, 0, none⟩ = some (.slice va es.length vc) ∧ u1.cell? ⟨w1.heap.size, 1, none⟩ = some (.bool sh) ∧ u1.cell? ⟨w1.heap.size, 2, none⟩ = some (.int .i64 lv) ∧ u1.cell? ⟨g5, p, none⟩ = some (.string s) ∧ Below w4.heap.size w4 u1) => MK u2 (hu.2.2.2.2.trans (hb.mono hu.2.2.2.2.size))
              have CM := fun (u : World) (hu : u.cell? ⟨w1.heap.size, 0, none⟩ = some (.slice va es.length vc) ∧ u.cell? ⟨w1.heap.size, 1, none⟩ = some (.bool sh) ∧ u.cell? ⟨w1.heap.size, 2, none⟩ = some (.int .i64 lv) ∧ u.cell? ⟨g5, p, none⟩ = some (.string s) ∧ Below w4.heap.size w4 u) => HIC.out u (H4.out.trans (hu.2.2.2.2.mono H4.out.size)) s t hsz1 hsz2
              rw [o1, o2, Bool.and_self] at CM
              generalize cmpT es sh lv s t = c at *
              have hw1 : IntKind.i64.wrap ((p : Int) + 1 - 1) = (p : Int) := by rw [IntKind.wrap_i64]; omega
              have hw2 : IntKind.i64.wrap (((p + 1 : Nat) : Int) - 1) = (p : Int) := by rw [IntKind.wrap_i64]; omega
              have hw3 : IntKind.i64.wrap (p : Int) = (p : Int) := by rw [IntKind.wrap_i64]; omega
              have hc8 : ¬ (0 : Int) < c := by omega
              have hp8 : (p : Int) < (L.length : Int) := by omega
              clear MK HX c0 c1 o1 o2 hs hc
              go_wp2_with fail
              go_region_held (fun u => u.cell? ⟨w1.heap.size, 0, none⟩ = some (.slice va es.length vc) ∧ u.cell? ⟨w1.heap.size, 1, none⟩ = some (.bool sh) ∧ u.cell? ⟨w1.heap.size, 2, none⟩ = some (.int .i64 lv) ∧ u.cell? ⟨g5, p, none⟩ = some (.string s) ∧ Below w4.heap.size w4 u)
                (first | exact hS2 | exact K _ _ (by assumption) (by assumption))
                (first | (go_at_call 6; refine (CM _ (by assumption)).mono ?_; rintro e w' ⟨rfl, hbw⟩))
              all_goals
                have hE := (show w'.cell? ⟨w1.heap.size, 0, none⟩ = _ ∧ _ ∧ _ ∧ _ ∧ Below w4.heap.size w4 w' by assumption).2.2.2.2
                clear hS hS2 K CM
                go_wp2
                go_meet
                case rel => exact ⟨rfl, hE⟩
          case rest =>
            clear HBR c0 c1
            obtain ⟨hi, hbc⟩ := hcut
            subst hi
            have HBC : Hid (Below w4.heap.size w4 wc) := hbc
            clear hbc
            go_wp2_with fail
            go_loop [13, 83] (fun a i => ∃ j c : Nat, j ≤ L.length ∧ i = .int .i64 j ∧ a = .int .i64 c ∧ c ≤ j ∧ Hid (c = cntS t (L.take j))) (fun _ i => L.length - (intOf i).toNat)
            case atStart => exact ⟨0, 0, Nat.zero_le _, rfl, rfl, Nat.le_refl _, rfl⟩
            case round =>
              obtain ⟨j, c, hj, rfl, rfl, hcj, HCJ⟩ := hrel
              by_cases hjl : j < L.length
              · obtain ⟨y, hy⟩ : ∃ y, L[j]? = some y := ⟨_, List.getElem?_eq_getElem hjl⟩
                have c2 := HQ5.out wc HBC.out j y hy
                have hj8 : (j : Int) < (L.length : Int) := by omega
                by_cases hyt : y = t
                · have HC2 : Hid (c + 1 = cntS t (L.take (j + 1))) := by
                    show _ = _
                    rw [cntS_take t L j y hy, if_pos hyt, ← HCJ.out]
                  subst hyt
                  clear HCJ hy
                  go_wp2
                  exact ⟨⟨j + 1, c + 1, by omega, by go_num, by go_num, by omega, HC2⟩, by simp [intOf]; omega⟩
                · have HC2 : Hid (c = cntS t (L.take (j + 1))) := by
                    show _ = _
                    rw [cntS_take t L j y hy, if_neg hyt, ← HCJ.out]
                    rfl
                  have hne := ne_text hyt
                  clear HCJ hy
                  go_wp2
                  exact ⟨⟨j + 1, c, by omega, by go_num, rfl, by omega, HC2⟩, by simp [intOf]; omega⟩
              · obtain rfl : j = L.length := by omega
                have HC3 : Hid (c = cntS t L) := by
                  show _ = _
                  rw [HCJ.out, List.take_length]
                clear HCJ
                go_wp2_with fail
                go_loop [14, 95] (fun a i => ∃ j d : Nat, j ≤ L.length ∧ i = .int .i64 j ∧ a = .int .i64 d ∧ d ≤ j ∧ Hid (d = cntS t (ss.take j))) (fun _ i => L.length - (intOf i).toNat)
                case atStart => exact ⟨0, 0, Nat.zero_le _, rfl, rfl, Nat.le_refl _, rfl⟩
                case round =>
                  obtain ⟨j, d, hj, rfl, rfl, hdj, HDJ⟩ := hrel
                  by_cases hjl : j < L.length
                  · obtain ⟨y, hy⟩ : ∃ y, ss[j]? = some y := ⟨_, List.getElem?_eq_getElem (by rw [← HLE.out]; exact hjl)⟩
                    have c2 := HQL.out wc HBC.out j y hy
                    have hj8 : (j : Int) < (L.length : Int) := by omega
                    by_cases hyt : y = t
                    · have HC2 : Hid (d + 1 = cntS t (ss.take (j + 1))) := by
                        show _ = _
                        rw [cntS_take t ss j y hy, if_pos hyt, ← HDJ.out]
                      subst hyt
                      clear HDJ hy
                      go_wp2
                      exact ⟨⟨j + 1, d + 1, by omega, by go_num, by go_num, by omega, HC2⟩, by simp [intOf]; omega⟩
                    · have HC2 : Hid (d = cntS t (ss.take (j + 1))) := by
                        show _ = _
                        rw [cntS_take t ss j y hy, if_neg hyt, ← HDJ.out]
                        rfl
                      have hne := ne_text hyt
                      clear HDJ hy
                      go_wp2
                      exact ⟨⟨j + 1, d, by omega, by go_num, rfl, by omega, HC2⟩, by simp [intOf]; omega⟩
                  · obtain rfl : j = L.length := by omega
                    have HC4 : Hid (d = c) := by
                      show _ = _
                      rw [HDJ.out, HC3.out, HLE.out, List.take_length, HC.out]
                    clear HDJ
                    obtain rfl := HC4.out
                    go_wp2
                    exact ⟨⟨k + 1, by omega, by go_num, HBC.out⟩, by simp [intOf]; omega⟩
        · obtain rfl : k = L.length := by omega
          go_wp2
          go_ret
          exact ⟨rfl, HB2.out.trans ((H4.out.trans (hbr.mono H4.out.size)).mono HB2.out.size)⟩
end Go.Proofs.YtanfebccenfffaaGreatDoor

namespace Go.Proofs.YtanfebccenfffaaGreatDoor
open Go.ChangeShapes Go.WideShapes Go.ChangeAt Go.WideMaps Go.WideElems Go.RowKit

theorem fnSorted_law (a0 : Option Addr) (len0 cap0 : Nat) (z0 : List Int) (w : World) (w0 : IsRow .u8 w a0 len0 cap0 z0) (t_marks : Held w 0 marksF) (t_cap : Held w 2 capF) (t_oth : Held w 3 othF) :
    Calls Tryz.prog 4 #[.slice a0 len0 cap0] w fun e w' => e = .returned (.bool true) ∧ Below w.heap.size w w' := by
  have hmx : len0 ≤ 9223372036854775807 := by
    rcases w0 with ⟨_, rfl, _, _⟩ | ⟨_, _, h1, h2, _⟩
    · omega
    · unfold maxLen at h2; omega
  exact sorted_walk w a0 len0 cap0 ⟨t_marks, t_cap, t_oth⟩ hmx fun hl => drawSortT_any w a0 len0 cap0 hl (came_of w0)

theorem own_fnSorted : ownKnob Tryz.prog.godebug = none := by kernel_rfl
theorem laidOut_fnSorted : laidOutB Tryz.prog = true := by kernel_rfl

set_option linter.unusedVariables false in
set_option maxRecDepth 100000 in
theorem fnSorted_contract (H : Type) (enc : TypeId × Value → H) (W : World) (base : Nat) (args : Array Value) (ds gs : List (DataW H)) (before : List MemPlace)
    (hval0 : ∀ (j : Nat) t v, Tryz.f4.params[j]? = some t → args[j]? = some v → Value.okWide Tryz.prog W .any base t v)
    (hW : DataW.Whole enc Tryz.prog Tryz.f4.params.toList Rows.fnSortedSpec.vars false W args.toList ds gs before) (hL : laidMetH Tryz.prog Rows.fnSortedRow.laid W) :
    Calls Tryz.prog 4 args W fun e W' => ∃ v, e = .returned v ∧ Rows.fnSortedSpec.post enc Tryz.prog Tryz.f4 false true false false W args v W' := by
  have hval : ∀ (j : Nat) t v, Tryz.f4.params[j]? = some t → args[j]? = some v → Value.okWide Tryz.prog W .any base t v := hval0
  have hW' := hW
  obtain ⟨p, q, hA0, hV, rfl, hfz, hnd⟩ := hW
  have hA : DataW.TrodAll enc Tryz.prog W 0 (fun _ => true) true Tryz.f4.params.toList args.toList ds p := hA0
  rw [Tryz.params4] at hA hval
  obtain ⟨v0, vs0, d0, ds0, p0, q0, hargs, rfl, rfl, h0, r0⟩ := trodAll_cons hA
  obtain ⟨rfl, rfl, rfl⟩ := trodAll_nil r0
  obtain rfl : args = #[v0] := by cases args; simp_all
  obtain ⟨g1, g2, g3, rfl⟩ : ∃ g1 g2 g3, gs = [g1, g2, g3] := by
    have hg := trodVars_len hV
    match gs, hg with
    | [x1, x2, x3], _ => exact ⟨x1, x2, x3, rfl⟩
  obtain ⟨a0, len0, cap0, rfl⟩ := okWide_slice Tryz.underlying22 (hval 0 22 v0 rfl rfl)
  have k0 := h0
  have lt0 : ∀ x ∈ p0, x.block < W.heap.size := by obtain ⟨m, hm⟩ := k0; exact DataW.trod_lt m _ _ _ hm
  obtain ⟨z0, w0⟩ : ∃ zs, IsRow .u8 W a0 len0 cap0 zs := by
    obtain ⟨fuel, hf⟩ := h0
    rcases open_ints Tryz.underlying22 Tryz.underlying5 (by kernel_rfl) hf with ⟨hcs, _⟩ | ⟨x, l, c, zs, hcs, _, hl, hm, hz, _, hcell, hwz⟩
    · simp [Value.cells] at hcs
      obtain ⟨rfl, rfl, rfl⟩ := hcs
      exact ⟨[], .inl ⟨rfl, rfl, rfl, rfl⟩⟩
    · simp [Value.cells] at hcs
      obtain ⟨rfl, rfl, rfl⟩ := hcs
      exact ⟨zs, .inr ⟨_, rfl, hl, hm, by simpa using hz, hcell, hwz⟩⟩
  have hL2 : laidMet Tryz.prog Rows.fnSortedRow.laid W := hL
  have t_marks := marks_held hL2
  have t_cap := cap_held (laidMet.tail hL2)
  have t_oth := oth_held (laidMet.tail (laidMet.tail hL2))
  clear hA0 hval0
  refine (fnSorted_law a0 len0 cap0 z0 W w0 t_marks t_cap t_oth).mono fun e W' ⟨he, bel⟩ => ?_
  subst he
  exact ⟨_, rfl, _, _, _, [], _, q, hW', trodAll_mk1 (shut_bool Tryz.underlying4 _), (trodAll_cons_mk (Below.trod laidOut_fnSorted (by kernel_rfl) (of_decide_eq_true (by kernel_rfl)) k0 bel lt0) trodAll_mk0), bel.trodVars laidOut_fnSorted (by kernel_rfl) hV, bel.frame _, fun h => by cases h⟩

theorem fnSorted_door (os : Os) (args : Array Value) : laidMetH Tryz.prog Rows.fnSortedRow.laid ((World.doorLaid Tryz.prog 70 os).forCall (fun _ _ => 0) ⟨#[], args, []⟩).memory :=
  laidMetH_of_parts3 (fuel := 8) (laidMet_of_run' 8 (by kernel_rfl) (by kernel_rfl)) (by kernel_rfl) (by kernel_rfl)

set_option maxRecDepth 100000 in
theorem fnSorted_lifted (os : Os) (started : os.Started) (H : Type) (enc : TypeId × Value → H) :
    ReturnsInHanded {} Tryz.checked os 4 .any (fun w args => (Rows.fnSortedSpec.pre enc Tryz.prog Tryz.f4 [] false w args ∧ laidMetH Tryz.prog Rows.fnSortedRow.laid w) ∧ sizedMet enc Tryz.prog Tryz.f4 (OpenSpec.ofChange Rows.fnSortedSpec) false w args)
      (Rows.fnSortedSpec.post enc Tryz.prog Tryz.f4 false true false false) := by
  refine returnsInHanded_of_change_and (C := Tryz.checked) (X := fun w _ => laidMetH Tryz.prog Rows.fnSortedRow.laid w) (fun _ _ _ hh h => h.of_heap hh) own_fnSorted started (by kernel_rfl) Tryz.func4
    (ChangeSpec.witness_shaped (enc := enc) (C := Tryz.checked) (os := os) (X := fun w _ => laidMetH Tryz.prog Rows.fnSortedRow.laid w) false (World.doorLaid Tryz.prog 70 os) #[.slice none 0 0] 8 rfl (World.shaped_of_RefB (by kernel_rfl) (by kernel_rfl)) (by kernel_rfl) (by kernel_rfl) (by kernel_rfl) (fnSorted_door os _)) ?_
  intro W base args ds gs before hval0 hW _ _ hL _
  exact fnSorted_contract H enc W base args ds gs before hval0 hW hL

theorem fnSorted_said : Rows.FnSortedSaid :=
  OpenClaim.holds_of_wide 4 Tryz.f4 rfl rfl rfl rfl rfl rfl rfl ⟨rfl, rfl, rfl, rfl, rfl⟩ rfl rfl rfl rfl rfl (by kernel_rfl) Tryz.func4 (by kernel_rfl)
    (of_decide_eq_true (by kernel_rfl)) (by unfold Func.isWrapper; first | (rw [if_pos (by decide +kernel)]; kernel_rfl) | (rw [if_neg (by decide +kernel)]; exact ⟨rfl, rfl⟩))
    (fun os started H enc _ => fnSorted_lifted os started H enc)

theorem fnSorted_plain (f : FuncId) (fn : Func) (hf : Tryz.pinned.checked.prog.funcNamed "loop.example/g00158/laws.FnSorted" = some f) (hfn : Tryz.pinned.checked.prog.funcs[f]? = some fn) :
    ∀ (j : Nat) t, fn.params[j]? = some t → Tryz.pinned.checked.prog.wantsStandIn t = false := by
  obtain rfl : f = 4 := Option.some.inj ((show Tryz.prog.funcNamed "loop.example/g00158/laws.FnSorted" = some 4 by kernel_rfl).symm.trans hf) |>.symm
  obtain rfl : fn = Tryz.f4 := (Option.some.inj (Tryz.func4.symm.trans hfn)).symm
  intro j t ht
  rw [Tryz.params4] at ht
  obtain rfl : t = 22 := by simpa using Array.mem_of_getElem? ht
  exact (show Tryz.prog.wantsStandIn 22 = false by kernel_rfl)

theorem fnSorted_card : Rows.FnSortedCardSaid :=
  Claim7.holds_tied_plain_at .later [] _ _ _ _ fnSorted_said (fun _ h => by cases h) (by kernel_rfl) (fun _ h => by cases h) fnSorted_row_tie rfl ⟨rfl, rfl⟩ (by kernel_rfl) rfl (fun f fn hf hfn => ⟨by kernel_rfl, fnSorted_plain f fn hf hfn⟩) (by kernel_rfl)
#print axioms fnSorted_card
end Go.Proofs.YtanfebccenfffaaGreatDoor
