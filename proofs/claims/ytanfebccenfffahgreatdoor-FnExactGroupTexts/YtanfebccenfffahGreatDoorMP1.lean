/- Texts of mine laid together: DGood, OkE, PSort4, PSortT, PCmp, PSortQ, PGrp, Nest2, Laid, IClass, ISort, IKT. -/
import Derived.Test.YtanfebccenfffahGreatDoorRead
import Derived.Test.YtanfebccenfffahGreatDoorGood
import Derived.Test.YtanfebccenfffahGreatDoorPKey2
import Derived.Test.YtanfebccenfffahGreatDoorRn4
import Derived.Test.YtanfebccenfffahGreatDoorNorm3
import Derived.Test.YtanfebccenfffahGreatDoorProg
import Derived.Test.YtanfebccenfffahGreatDoorNest
import Derived.Test.YtanfebccenfffahGreatDoorRows
import Derived.OpenShut
import Derived.LaidLaws
import Derived.Stop.LaidErr
import Derived.WalkKit
import Derived.OpenVars
import Derived.Test.YtanfebccenfffahGreatDoorClass
import Derived.Deep.WholeRow
import Derived.Test.YtanfebccenfffahGreatDoorSort2
import Derived.Deep.RegionHeld
import Derived.BigRegion
namespace Go.Proofs.YtanfebccenfffahGreatDoor
open Go.RowKit

set_option maxHeartbeats 1000000 in
theorem decode_good (s : ByteArray) (p : Nat) : (Utf8.decode s p).1 ≤ 1114111 ∧ ((Utf8.decode s p).1 < 55296 ∨ 57343 < (Utf8.decode s p).1) := by
  have hb : ∀ k, (s.get! (p + k)).toNat < 256 := fun k => (s.get! (p + k)).toNat_lt
  have h0 := hb 0; have h1 := hb 1; have h2 := hb 2; have h3 := hb 3
  simp only [Utf8.decode]
  repeat' split
  all_goals simp_all [Utf8.runeError, Utf8.valid]
  all_goals omega

theorem one_good (t : ByteArray) (h : 0 < t.size) : goodB (Dec.one t).1 = true := by
  have hd := (Dec.decode_one t 0 h).1
  rw [extract_all] at hd
  have hg := decode_good t 0
  rw [← hd]
  exact decide_eq_true (by omega)

theorem dec_good : ∀ (f : Nat) (t : ByteArray), ∀ x ∈ (Dec.decT f t).1, goodB x = true := by
  intro f
  induction f with
  | zero => intro t x hx; simp [Dec.decT] at hx
  | succ f ih =>
    intro t x hx
    simp only [Dec.decT] at hx
    split at hx
    · rename_i h0
      simp only [List.mem_cons] at hx
      rcases hx with rfl | hx
      · exact one_good t h0
      · exact ih _ x hx
    · simp at hx
end Go.Proofs.YtanfebccenfffahGreatDoor

namespace Go.Proofs.YtanfebccenfffahGreatDoor

def okE (es : List Ent) (lv : Int) (x : ByteArray) : Bool := ok4 x && rulesOk es lv
def elsA (es : List Ent) (lv : Int) (x : ByteArray) : List El := if okE es lv x = true then elems4 es (rn4 x) else []
/-- The key of a text. -/
def keyT (es : List Ent) (sh : Bool) (lv : Int) (x : ByteArray) : ByteArray := if okE es lv x = true then bytesOf (keyB es sh lv (rn4 x)) else ⟨#[]⟩
/-- The first weights of a text. -/
def firsT (es : List Ent) (sh : Bool) (lv : Int) (x : ByteArray) : List Int := if okE es lv x = true then firstsB es sh (rn4 x) else []

theorem rn4_good (x : ByteArray) : ∀ y ∈ rn4 x, goodB y = true := fun y hy => apD_good (dec_good x.size x) y (mem_sortM.1 hy)
theorem rn4_rng (x : ByteArray) : ∀ y ∈ rn4 x, 0 ≤ y ∧ y ≤ 1114111 := fun y hy => by have := goodB_true (rn4_good x y hy); omega

theorem ok4_parts {x : ByteArray} (h : ok4 x = true) : x.size ≤ 200 ∧ (rn4 x).length ≤ 200 := of_decide_eq_true h

theorem okE_parts {es : List Ent} {lv : Int} {x : ByteArray} (h : okE es lv x = true) : x.size ≤ 200 ∧ (rn4 x).length ≤ 200 ∧ rulesOk es lv = true := by
  unfold okE at h
  rw [Bool.and_eq_true] at h
  exact ⟨(ok4_parts h.1).1, (ok4_parts h.1).2, h.2⟩

theorem rulesOk_parts {es : List Ent} {lv : Int} (h : rulesOk es lv = true) : es.length ≤ 40 ∧ 1 ≤ lv ∧ lv ≤ 4 := ⟨(of_decide_eq_true h).1, (of_decide_eq_true h).2.1.1, (of_decide_eq_true h).2.1.2⟩

theorem firsT_rng (es : List Ent) (sh : Bool) (lv : Int) (x : ByteArray) : ∀ n ∈ firsT es sh lv x, 1 ≤ n ∧ n ≤ 65535 := by
  unfold firsT
  split
  · rename_i h
    exact firstsB_rng (okE_parts h).2.2 (rn4_rng x)
  · intro n hn; cases hn

theorem firsT_len (es : List Ent) (sh : Bool) (lv : Int) (x : ByteArray) : (firsT es sh lv x).length ≤ 400 := by
  unfold firsT
  split
  · rename_i h
    have := firstsB_len es sh (rn4 x)
    have := (okE_parts h).2.1
    omega
  · simp

theorem elsA_len (es : List Ent) (lv : Int) (x : ByteArray) : (elsA es lv x).length ≤ 400 := by
  unfold elsA
  split
  · rename_i h
    have := elems4_len es (rn4 x)
    have := (okE_parts h).2.1
    omega
  · simp

theorem bytesOf_size (bs : List Int) : (bytesOf bs).size = bs.length := by simp [bytesOf, ByteArray.size]

theorem keyB_len (es : List Ent) (sh : Bool) {lv : Int} (h : 1 ≤ lv ∧ lv ≤ 4) (l : List Int) : (keyB es sh lv l).length ≤ 4 * (2 + 4 * l.length) := by
  have h1 := keyN_len (counted sh (elems4 es l)) (fourths sh (elems4 es l)) lv.toNat
  have h2 := counted_len sh (elems4 es l)
  have h3 := elems4_len es l
  unfold keyB
  refine Nat.le_trans h1 (Nat.mul_le_mul (by omega) (by omega))

theorem keyT_size (es : List Ent) (sh : Bool) (lv : Int) (x : ByteArray) : (keyT es sh lv x).size ≤ 4000 := by
  unfold keyT
  split
  · rename_i h
    obtain ⟨_, h1, h2⟩ := okE_parts h
    have := keyB_len es sh (rulesOk_parts h2).2 (rn4 x)
    rw [bytesOf_size]
    omega
  · show (0 : Nat) ≤ 4000; omega
end Go.Proofs.YtanfebccenfffahGreatDoor

namespace Go.Proofs.YtanfebccenfffahGreatDoor

def ltS (a b : ByteArray) : Bool := Op.bytesLess a.toList b.toList
def eqS (a b : ByteArray) : Bool := a.toList == b.toList
def gtS (a b : ByteArray) : Bool := !(ltS a b || eqS a b)
/-- How two keys stand to each other. -/
def cmpS (a b : ByteArray) : Int := if ltS a b = true then -1 else if gtS a b = true then 1 else 0

theorem less_irrefl : ∀ x : List UInt8, Op.bytesLess x x = false
  | [] => rfl
  | a :: x => by simp [Op.bytesLess, less_irrefl x]

theorem less_asymm : ∀ x y : List UInt8, Op.bytesLess x y = true → Op.bytesLess y x = false ∧ (x == y) = false
  | _, [], h => by simp [Op.bytesLess] at h
  | [], b :: y, _ => by simp [Op.bytesLess]
  | a :: x, b :: y, h => by
    simp only [Op.bytesLess, Bool.or_eq_true, Bool.and_eq_true, decide_eq_true_eq, beq_iff_eq] at h
    rcases h with h | ⟨rfl, h⟩
    · have h1 : ¬ b < a := fun c => absurd (UInt8.lt_trans h c) (UInt8.lt_irrefl _)
      have h2 : a ≠ b := UInt8.ne_of_lt h
      have h3 : b ≠ a := fun e => h2 e.symm
      simp [Op.bytesLess, h1, h2, h3]
    · have := less_asymm x y h
      simp only [beq_eq_false_iff_ne] at this
      simp [Op.bytesLess, this.1, this.2]

theorem less_total : ∀ x y : List UInt8, Op.bytesLess x y = true ∨ (x == y) = true ∨ Op.bytesLess y x = true
  | [], [] => by simp
  | [], _ :: _ => by simp [Op.bytesLess]
  | _ :: _, [] => by simp [Op.bytesLess]
  | a :: x, b :: y => by
    have := less_total x y
    rcases Nat.lt_trichotomy a.toNat b.toNat with h | h | h
    · left
      simp [Op.bytesLess, UInt8.lt_iff_toNat_lt, h]
    · obtain rfl : a = b := UInt8.toNat.inj h
      simpa [Op.bytesLess] using this
    · right; right
      simp [Op.bytesLess, UInt8.lt_iff_toNat_lt, h]

theorem less_trans : ∀ x y z : List UInt8, Op.bytesLess x y = true → Op.bytesLess y z = true → Op.bytesLess x z = true
  | _, _, [], _, h => by cases h' : ‹List UInt8› <;> simp [Op.bytesLess] at h
  | _, [], _ :: _, h, _ => by simp [Op.bytesLess] at h
  | [], _ :: _, _ :: _, _, _ => by simp [Op.bytesLess]
  | a :: x, b :: y, c :: z, h1, h2 => by
    simp only [Op.bytesLess, Bool.or_eq_true, Bool.and_eq_true, decide_eq_true_eq, beq_iff_eq] at h1 h2 ⊢
    rcases h1 with h1 | ⟨rfl, h1⟩
    · rcases h2 with h2 | ⟨rfl, h2⟩
      · exact .inl (UInt8.lt_trans h1 h2)
      · exact .inl h1
    · rcases h2 with h2 | ⟨rfl, h2⟩
      · exact .inl h2
      · exact .inr ⟨rfl, less_trans x y z h1 h2⟩

theorem gtS_lt (a b : ByteArray) : gtS a b = ltS b a := by
  unfold gtS ltS eqS
  cases h : Op.bytesLess b.toList a.toList
  · rcases less_total a.toList b.toList with h1 | h1 | h1
    · rw [h1]; rfl
    · rw [h1]; simp
    · rw [h] at h1; cases h1
  · have h1 := less_asymm _ _ h
    have h2 : (a.toList == b.toList) = false := by
      have := h1.2
      simp only [beq_eq_false_iff_ne, ne_eq] at this ⊢
      exact fun e => this e.symm
    rw [h1.1, h2]; rfl

theorem cmpS_neg (a b : ByteArray) : cmpS b a = - cmpS a b := by
  unfold cmpS
  rw [gtS_lt, gtS_lt]
  cases h : ltS a b
  · cases h2 : ltS b a <;> rfl
  · have := (less_asymm _ _ h).1
    have h2 : ltS b a = false := this
    rw [h2]; rfl

theorem cmpS_self (a : ByteArray) : cmpS a a = 0 := by
  unfold cmpS
  rw [gtS_lt]
  have : ltS a a = false := less_irrefl _
  rw [this]; rfl

/-- A key and its text. -/
structure KT where
  key : ByteArray
  text : ByteArray

def ktZ : KT := ⟨⟨#[]⟩, ⟨#[]⟩⟩
def ktAt (l : List KT) (k : Nat) : KT := (l[k]?).getD ktZ

/-- The one at place j goes to the front past what is greater. -/
def bubK : List KT → Nat → List KT
  | l, 0 => l
  | l, j + 1 => if gtS (ktAt l j).key (ktAt l (j + 1)).key = true then bubK ((l.set j (ktAt l (j + 1))).set (j + 1) (ktAt l j)) j else l

theorem bubK_go {l : List KT} {j : Nat} (h : gtS (ktAt l j).key (ktAt l (j + 1)).key = true) : bubK l (j + 1) = bubK ((l.set j (ktAt l (j + 1))).set (j + 1) (ktAt l j)) j := by
  rw [bubK, if_pos h]
theorem bubK_stop {l : List KT} {j : Nat} (h : gtS (ktAt l j).key (ktAt l (j + 1)).key = false) : bubK l (j + 1) = l := by
  rw [bubK, if_neg (by rw [h]; simp)]

theorem bubK_len (l : List KT) (j : Nat) : (bubK l j).length = l.length := by
  induction j generalizing l with
  | zero => rfl
  | succ j ih =>
    rw [bubK]
    split
    · rw [ih]; simp
    · rfl

/-- The first k are sorted. -/
def srtK (l : List KT) : Nat → List KT
  | 0 => l
  | k + 1 => bubK (srtK l k) k

theorem srtK_len (l : List KT) (k : Nat) : (srtK l k).length = l.length := by
  induction k with
  | zero => rfl
  | succ k ih => rw [srtK, bubK_len, ih]

theorem ktAt_app {l r : List KT} {k : Nat} (h : k < l.length) : ktAt (l ++ r) k = ktAt l k := by
  unfold ktAt; rw [List.getElem?_append_left h]

theorem bubK_app {l r : List KT} {j : Nat} (h : j < l.length) : bubK (l ++ r) j = bubK l j ++ r := by
  induction j generalizing l with
  | zero => rfl
  | succ j ih =>
    rw [bubK, bubK, ktAt_app (by omega), ktAt_app h]
    split
    · rw [List.set_append_left _ _ (by omega), List.set_append_left _ _ (by simpa using h), ih (by simp; omega)]
    · rfl

/-- One after the other, each to its place. -/
def insK (l : List KT) : Nat → List KT
  | 0 => []
  | k + 1 => bubK (insK l k ++ [ktAt l k]) k

theorem insK_len (l : List KT) (k : Nat) : (insK l k).length = k := by
  induction k with
  | zero => rfl
  | succ k ih => rw [insK, bubK_len]; simp [ih]

theorem srtK_ins {l : List KT} {k : Nat} (h : k ≤ l.length) : srtK l k = insK l k ++ l.drop k := by
  induction k with
  | zero => rfl
  | succ k ih =>
    have hk : k < l.length := by omega
    have hd : l.drop k = ktAt l k :: l.drop (k + 1) := by
      rw [List.drop_eq_getElem_cons hk]
      unfold ktAt
      rw [List.getElem?_eq_getElem hk]
      rfl
    rw [srtK, ih (by omega), insK, hd, show insK l k ++ ktAt l k :: l.drop (k + 1) = (insK l k ++ [ktAt l k]) ++ l.drop (k + 1) by simp, bubK_app (by simp [insK_len])]

theorem srtK_all (l : List KT) : srtK l l.length = insK l l.length := by
  rw [srtK_ins (Nat.le_refl _)]; simp

/-- A place that is free: what stands there is not looked at. -/
theorem hole_go {a : List KT} {x : KT} {j : Nat} (hj : j + 1 < a.length) (h : gtS (ktAt a j).key x.key = true) : bubK (a.set (j + 1) x) (j + 1) = bubK ((a.set (j + 1) (ktAt a j)).set j x) j := by
  have h1 : ktAt (a.set (j + 1) x) j = ktAt a j := by unfold ktAt; rw [List.getElem?_set_ne (by omega)]
  have h2 : ktAt (a.set (j + 1) x) (j + 1) = x := by unfold ktAt; rw [List.getElem?_set_self hj]; rfl
  rw [bubK_go (by rw [h1, h2]; exact h), h1, h2]
  congr 1
  rw [List.set_comm _ _ (by omega), List.set_set, List.set_comm _ _ (by omega)]

theorem hole_stop {a : List KT} {x : KT} {j : Nat} (hj : j + 1 < a.length) (h : gtS (ktAt a j).key x.key = false) : bubK (a.set (j + 1) x) (j + 1) = a.set (j + 1) x := by
  have h1 : ktAt (a.set (j + 1) x) j = ktAt a j := by unfold ktAt; rw [List.getElem?_set_ne (by omega)]
  have h2 : ktAt (a.set (j + 1) x) (j + 1) = x := by unfold ktAt; rw [List.getElem?_set_self hj]; rfl
  exact bubK_stop (by rw [h1, h2]; exact h)
end Go.Proofs.YtanfebccenfffahGreatDoor

namespace Go.Proofs.YtanfebccenfffahGreatDoor

def ktOf (es : List Ent) (sh : Bool) (lv : Int) (s : ByteArray) : KT := ⟨keyT es sh lv s, s⟩
def okS (es : List Ent) (lv : Int) (ss : List ByteArray) : Bool := decide (ss.length ≤ 60) && (rulesOk es lv && ss.all fun s => ok4 s)
def sortS (es : List Ent) (sh : Bool) (lv : Int) (ss : List ByteArray) : List ByteArray := if okS es lv ss = true then (insK (ss.map (ktOf es sh lv)) ss.length).map KT.text else []

theorem okS_long {es : List Ent} {lv : Int} {ss : List ByteArray} (h : 60 < ss.length) : okS es lv ss = false := by unfold okS; rw [decide_eq_false (by omega), Bool.false_and]
theorem okS_rules {es : List Ent} {lv : Int} {ss : List ByteArray} (h : rulesOk es lv = false) : okS es lv ss = false := by unfold okS; rw [h, Bool.false_and, Bool.and_false]
theorem okS_bad {es : List Ent} {lv : Int} {ss : List ByteArray} {k : Nat} {s : ByteArray} (hs : ss[k]? = some s) (h : ok4 s = false) : okS es lv ss = false := by
  have : (ss.all fun s => ok4 s) = false := by
    rw [List.all_eq_false]
    exact ⟨s, List.mem_of_getElem? hs, by rw [h]; simp⟩
  unfold okS
  rw [this, Bool.and_false, Bool.and_false]
theorem okS_good {es : List Ent} {lv : Int} {ss : List ByteArray} (h1 : ss.length ≤ 60) (h2 : rulesOk es lv = true) (h3 : ∀ k s, k < ss.length → ss[k]? = some s → ok4 s = true) : okS es lv ss = true := by
  unfold okS
  rw [decide_eq_true h1, h2, Bool.true_and, Bool.true_and, List.all_eq_true]
  intro s hs
  obtain ⟨k, hk⟩ := List.getElem?_of_mem hs
  exact h3 k s (List.getElem?_eq_some_iff.1 hk).1 hk

theorem ktAt_map {es : List Ent} {sh : Bool} {lv : Int} {ss : List ByteArray} {k : Nat} {s : ByteArray} (h : ss[k]? = some s) : ktAt (ss.map (ktOf es sh lv)) k = ktOf es sh lv s := by
  unfold ktAt
  rw [List.getElem?_map, h]; rfl

theorem okE_rules {es : List Ent} {lv : Int} (x : ByteArray) (h : rulesOk es lv = true) : okE es lv x = ok4 x := by unfold okE; rw [h, Bool.and_true]

theorem insK_succ (l : List KT) (k : Nat) : insK l (k + 1) = bubK (insK l k ++ [ktAt l k]) k := rfl

theorem sortS_len (es : List Ent) (sh : Bool) (lv : Int) (ss : List ByteArray) : (sortS es sh lv ss).length ≤ 60 := by
  unfold sortS
  split
  · rename_i h
    rw [List.length_map, insK_len]
    unfold okS at h
    rw [Bool.and_eq_true] at h
    exact of_decide_eq_true h.1
  · simp

theorem bubK_perm (l : List KT) (j : Nat) (h : j < l.length) : (bubK l j).Perm l := by
  induction j generalizing l with
  | zero => exact List.Perm.refl _
  | succ j ih =>
    rw [bubK]
    split
    · have hj : j < l.length := by omega
      refine (ih _ (by simp; omega)).trans ?_
      have e1 : ktAt l j = l[j] := by unfold ktAt; rw [List.getElem?_eq_getElem hj]; rfl
      have e2 : ktAt l (j + 1) = l[j + 1] := by unfold ktAt; rw [List.getElem?_eq_getElem h]; rfl
      rw [e1, e2]
      exact List.set_set_perm hj h
    · exact List.Perm.refl _

theorem insK_perm (l : List KT) (k : Nat) (h : k ≤ l.length) : (insK l k).Perm (l.take k) := by
  induction k with
  | zero => exact List.Perm.refl _
  | succ k ih =>
    have hk : k < l.length := by omega
    rw [insK, List.take_add_one, List.getElem?_eq_getElem hk]
    have e : ktAt l k = l[k] := by unfold ktAt; rw [List.getElem?_eq_getElem hk]; rfl
    rw [e]
    refine (bubK_perm _ k (by simp [insK_len])).trans ?_
    exact (ih (by omega)).append_right _

theorem insK_all (l : List KT) : (insK l l.length).Perm l := by
  have := insK_perm l l.length (Nat.le_refl _)
  rw [List.take_length] at this
  exact this
end Go.Proofs.YtanfebccenfffahGreatDoor

namespace Go.Proofs.YtanfebccenfffahGreatDoor

def cmpT (es : List Ent) (sh : Bool) (lv : Int) (x y : ByteArray) : Int := if (okE es lv x && okE es lv y) = true then cmpS (keyT es sh lv x) (keyT es sh lv y) else 0
end Go.Proofs.YtanfebccenfffahGreatDoor

namespace Go.Proofs.YtanfebccenfffahGreatDoor

theorem ktAt_set_ne {l : List KT} {i j : Nat} {x : KT} (h : i ≠ j) : ktAt (l.set i x) j = ktAt l j := by unfold ktAt; rw [List.getElem?_set_ne h]
theorem ktAt_set {l : List KT} {i : Nat} {x : KT} (h : i < l.length) : ktAt (l.set i x) i = x := by unfold ktAt; rw [List.getElem?_set_self h]; rfl

theorem gtS_asymm {a b : ByteArray} (h : gtS a b = true) : gtS b a = false := by
  rw [gtS_lt] at h ⊢
  exact (less_asymm _ _ h).1

theorem bubK_srt : ∀ (j : Nat) (l : List KT), j < l.length → (∀ i, i + 1 < l.length → i + 1 ≠ j → gtS (ktAt l i).key (ktAt l (i + 1)).key = false) → (∀ i, i + 1 = j → j + 1 < l.length → gtS (ktAt l i).key (ktAt l (j + 1)).key = false) →
    ∀ i, i + 1 < l.length → gtS (ktAt (bubK l j) i).key (ktAt (bubK l j) (i + 1)).key = false := by
  intro j
  induction j with
  | zero => intro l _ h _ i hi; exact h i hi (by omega)
  | succ j ih =>
    intro l hj h he i hi
    rw [bubK]
    split
    · rename_i hg
      have l1 : ((l.set j (ktAt l (j + 1))).set (j + 1) (ktAt l j)).length = l.length := by simp
      have a0 : ktAt ((l.set j (ktAt l (j + 1))).set (j + 1) (ktAt l j)) j = ktAt l (j + 1) := by rw [ktAt_set_ne (by omega), ktAt_set (by omega)]
      have a1 : ktAt ((l.set j (ktAt l (j + 1))).set (j + 1) (ktAt l j)) (j + 1) = ktAt l j := by rw [ktAt_set (by simpa using hj)]
      have a2 : ∀ k, k ≠ j → k ≠ j + 1 → ktAt ((l.set j (ktAt l (j + 1))).set (j + 1) (ktAt l j)) k = ktAt l k := fun k h1 h2 => by rw [ktAt_set_ne (by omega), ktAt_set_ne (by omega)]
      refine ih _ (by omega) (fun k hk hkj => ?_) (fun k hk _ => ?_) i (by omega)
      · by_cases c : k = j
        · subst c
          rw [a0, a1]
          exact gtS_asymm hg
        · by_cases d : k = j + 1
          · subst d
            rw [a1, a2 _ (by omega) (by omega)]
            exact he j rfl (by omega)
          · rw [a2 k c d, a2 (k + 1) (by omega) (by omega)]
            exact h k (by omega) (by omega)
      · rw [a1, a2 k (by omega) (by omega)]
        have := h k (by omega) (by omega)
        rw [hk] at this
        exact this
    · rename_i hg
      by_cases c : i = j
      · subst c
        cases hx : gtS (ktAt l i).key (ktAt l (i + 1)).key
        · rfl
        · exact absurd hx hg
      · exact h i hi (by omega)

theorem insK_srt (l : List KT) : ∀ (k : Nat), ∀ i, i + 1 < k → gtS (ktAt (insK l k) i).key (ktAt (insK l k) (i + 1)).key = false := by
  intro k
  induction k with
  | zero => intro i hi; omega
  | succ k ih =>
    intro i hi
    rw [insK]
    have hl : (insK l k ++ [ktAt l k]).length = k + 1 := by simp [insK_len]
    refine bubK_srt k _ (by omega) (fun j hj hjk => ?_) (fun j hj hk => by omega) i (by omega)
    rw [ktAt_app (by rw [insK_len]; omega), ktAt_app (by rw [insK_len]; omega)]
    exact ih j (by omega)

theorem okS_parts {es : List Ent} {lv : Int} {ss : List ByteArray} (h : okS es lv ss = true) : ss.length ≤ 60 ∧ rulesOk es lv = true ∧ ∀ s ∈ ss, ok4 s = true := by
  unfold okS at h
  rw [Bool.and_eq_true, Bool.and_eq_true] at h
  exact ⟨of_decide_eq_true h.1, h.2.1, List.all_eq_true.1 h.2.2⟩

/-- Those that were. -/
theorem sortS_perm {es : List Ent} {sh : Bool} {lv : Int} {ss : List ByteArray} (h : okS es lv ss = true) : (sortS es sh lv ss).Perm ss := by
  unfold sortS
  rw [if_pos h]
  have h1 := (insK_all (ss.map (ktOf es sh lv))).map KT.text
  have e : (ss.map (ktOf es sh lv)).map KT.text = ss := by rw [List.map_map]; exact List.map_id' ss
  rw [e, List.length_map] at h1
  exact h1

theorem sortS_no {es : List Ent} {sh : Bool} {lv : Int} {ss : List ByteArray} (h : okS es lv ss = false) : sortS es sh lv ss = [] := by
  unfold sortS
  rw [if_neg (by rw [h]; simp)]

/-- They do not fall. -/
theorem sortS_srt {es : List Ent} {sh : Bool} {lv : Int} {ss : List ByteArray} {i : Nat} {x y : ByteArray} (hx : (sortS es sh lv ss)[i]? = some x) (hy : (sortS es sh lv ss)[i + 1]? = some y) : okE es lv x = true ∧ okE es lv y = true ∧ cmpT es sh lv x y ≤ 0 := by
  cases h : okS es lv ss
  · rw [sortS_no h] at hx; simp at hx
  · have hp := okS_parts h
    have hm := sortS_perm (sh := sh) h
    have ox : okE es lv x = true := by rw [okE_rules x hp.2.1]; exact hp.2.2 x (hm.mem_iff.1 (List.mem_of_getElem? hx))
    have oy : okE es lv y = true := by rw [okE_rules y hp.2.1]; exact hp.2.2 y (hm.mem_iff.1 (List.mem_of_getElem? hy))
    refine ⟨ox, oy, ?_⟩
    unfold sortS at hx hy
    rw [if_pos h, List.getElem?_map] at hx hy
    have hi := insK_all (ss.map (ktOf es sh lv))
    rw [List.length_map] at hi
    obtain ⟨kx, hkx, rfl⟩ := Option.map_eq_some_iff.1 hx
    obtain ⟨ky, hky, rfl⟩ := Option.map_eq_some_iff.1 hy
    have fx : ∀ z, z ∈ insK (ss.map (ktOf es sh lv)) ss.length → z.key = keyT es sh lv z.text := fun z hz => by
      obtain ⟨s, _, rfl⟩ := List.mem_map.1 (hi.mem_iff.1 hz)
      rfl
    have g := insK_srt (ss.map (ktOf es sh lv)) ss.length i (by have := (List.getElem?_eq_some_iff.1 hky).1; rw [insK_len] at this; exact this)
    unfold ktAt at g
    rw [hkx, hky] at g
    have g2 : gtS kx.key ky.key = false := g
    rw [fx kx (List.mem_of_getElem? hkx), fx ky (List.mem_of_getElem? hky)] at g2
    unfold cmpT
    rw [if_pos (by rw [ox, oy]; rfl)]
    unfold cmpS
    rw [g2]
    split <;> simp

/-- How often a text is among others. -/
def cntS (t : ByteArray) (l : List ByteArray) : Nat := l.countP (fun x => decide (x = t))

theorem cntS_take (t : ByteArray) (l : List ByteArray) (k : Nat) (x : ByteArray) (h : l[k]? = some x) : cntS t (l.take (k + 1)) = cntS t (l.take k) + (if x = t then 1 else 0) := by
  unfold cntS
  rw [List.take_add_one, h, List.countP_append]
  simp

theorem cntS_le (t : ByteArray) (l : List ByteArray) : cntS t l ≤ l.length := List.countP_le_length

theorem cntS_perm {t : ByteArray} {l l' : List ByteArray} (h : l.Perm l') : cntS t l = cntS t l' := h.countP_eq _
end Go.Proofs.YtanfebccenfffahGreatDoor

namespace Go.Proofs.YtanfebccenfffahGreatDoor

/-- A text behind those of the last group. -/
def addL (gs : List (List ByteArray)) (s : ByteArray) : List (List ByteArray) := gs.set (gs.length - 1) ((gs[gs.length - 1]?).getD [] ++ [s])

def txAt (L : List ByteArray) (k : Nat) : ByteArray := (L[k]?).getD ⟨#[]⟩

/-- Whether a group begins at place k. -/
def nwAt (es : List Ent) (sh : Bool) (lv : Int) (L : List ByteArray) (k : Nat) : Bool := decide (k = 0) || !decide (keyT es sh lv (txAt L (k - 1)) = keyT es sh lv (txAt L k))

/-- The groups of the first k. -/
def grpK (L : List ByteArray) (nw : Nat → Bool) : Nat → List (List ByteArray)
  | 0 => []
  | k + 1 => addL (if nw k = true then grpK L nw k ++ [[]] else grpK L nw k) (txAt L k)

def totL : List (List ByteArray) → Nat
  | [] => 0
  | g :: gs => g.length + totL gs

theorem totL_app (a b : List (List ByteArray)) : totL (a ++ b) = totL a + totL b := by
  induction a with
  | nil => simp [totL]
  | cons g a ih => simp [totL, ih]; omega

theorem totL_set {gs : List (List ByteArray)} {k : Nat} {g : List ByteArray} (h : k < gs.length) : totL (gs.set k g) + ((gs[k]?).getD []).length = totL gs + g.length := by
  induction gs generalizing k with
  | nil => simp at h
  | cons x gs ih =>
    cases k with
    | zero => simp [totL]; omega
    | succ k =>
      have := ih (k := k) (by simpa using h)
      have e : ((x :: gs)[k + 1]?) = gs[k]? := rfl
      rw [e]
      simp only [totL, List.set_cons_succ]
      omega

theorem addL_len (gs : List (List ByteArray)) (s : ByteArray) : (addL gs s).length = gs.length := by simp [addL]

theorem addL_tot {gs : List (List ByteArray)} {s : ByteArray} (h : 0 < gs.length) : totL (addL gs s) = totL gs + 1 := by
  unfold addL
  have := totL_set (gs := gs) (k := gs.length - 1) (g := (gs[gs.length - 1]?).getD [] ++ [s]) (by omega)
  rw [List.length_append] at this
  simp at this ⊢
  omega

theorem grpK_facts (L : List ByteArray) {nw : Nat → Bool} (h0 : nw 0 = true) : ∀ k, (grpK L nw k).length ≤ k ∧ totL (grpK L nw k) = k ∧ (0 < k → 0 < (grpK L nw k).length) := by
  intro k
  induction k with
  | zero => exact ⟨Nat.le_refl _, rfl, fun h => h⟩
  | succ k ih =>
    obtain ⟨h1, h2, h3⟩ := ih
    rw [grpK]
    split
    · have hl : 0 < (grpK L nw k ++ [[]]).length := by simp
      refine ⟨by rw [addL_len, List.length_append]; simp; omega, ?_, fun _ => by rw [addL_len]; exact hl⟩
      rw [addL_tot hl, totL_app, h2]
      simp [totL]
    · rename_i hn
      have hk : 0 < k := by
        rcases Nat.eq_zero_or_pos k with c | c
        · subst c; exact absurd h0 hn
        · exact c
      refine ⟨by rw [addL_len]; omega, ?_, fun _ => by rw [addL_len]; exact h3 hk⟩
      rw [addL_tot (h3 hk), h2]

theorem tot_mem {gs : List (List ByteArray)} {g : List ByteArray} (h : g ∈ gs) : g.length ≤ totL gs := by
  induction gs with
  | nil => cases h
  | cons x gs ih =>
    rcases List.mem_cons.1 h with rfl | h
    · simp [totL]
    · have := ih h
      simp [totL]
      omega

/-- What GroupTexts answers. -/
def grpS (es : List Ent) (sh : Bool) (lv : Int) (ss : List ByteArray) : List (List ByteArray) := grpK (sortS es sh lv ss) (nwAt es sh lv (sortS es sh lv ss)) (sortS es sh lv ss).length

theorem nwAt_zero (es : List Ent) (sh : Bool) (lv : Int) (L : List ByteArray) : nwAt es sh lv L 0 = true := rfl

theorem grpS_tot (es : List Ent) (sh : Bool) (lv : Int) (ss : List ByteArray) : totL (grpS es sh lv ss) ≤ 60 := by
  unfold grpS
  rw [(grpK_facts (sortS es sh lv ss) (nwAt_zero es sh lv (sortS es sh lv ss)) _).2.1]
  exact sortS_len es sh lv ss
theorem grpS_len (es : List Ent) (sh : Bool) (lv : Int) (ss : List ByteArray) : (grpS es sh lv ss).length ≤ 60 := by
  unfold grpS
  have := (grpK_facts (sortS es sh lv ss) (nwAt_zero es sh lv (sortS es sh lv ss)) (sortS es sh lv ss).length).1
  have := sortS_len es sh lv ss
  omega

theorem cmpS_zero {a b : ByteArray} : cmpS a b = 0 ↔ a = b := by
  constructor
  · intro h
    unfold cmpS at h
    rw [gtS_lt] at h
    cases h1 : ltS a b
    · rw [h1] at h
      cases h2 : ltS b a
      · rcases less_total a.toList b.toList with c | c | c
        · unfold ltS at h1; rw [c] at h1; cases h1
        · have e : a.toList = b.toList := by simpa using c
          rw [ByteArray.toList_eq, ByteArray.toList_eq] at e
          exact ByteArray.ext (Array.toList_inj.1 e)
        · unfold ltS at h2; rw [c] at h2; cases h2
      · rw [h2] at h; simp at h
    · rw [h1] at h; simp at h
  · rintro rfl
    exact cmpS_self a
end Go.Proofs.YtanfebccenfffahGreatDoor

namespace Go.Proofs.YtanfebccenfffahGreatDoor
open Go.RowKit

theorem own_sym {v x : Value} (h : v.ownBlock = none ∨ v.ownBlock ≠ x.ownBlock) : x.ownBlock = none ∨ x.ownBlock ≠ v.ownBlock := by
  cases c : x.ownBlock with
  | none => exact .inl rfl
  | some j =>
    refine .inr fun e => ?_
    rcases h with h | h
    · rw [h] at e; cases e
    · exact h (by rw [c]; exact e.symm)

theorem own_types {w : World} {B B' n n' size size' e e' : Nat} {v x : Value} {xs ys : List Value} (h : w.ownsRow B e size v n xs) (h' : w.ownsRow B' e' size' x n' ys) (hne : e ≠ e') : v.ownBlock = none ∨ v.ownBlock ≠ x.ownBlock := by
  rcases h.2 with ⟨rfl, _⟩ | ⟨g, cap, cur, rfl, _, hg, _⟩
  · exact .inl rfl
  · refine .inr fun c => ?_
    rcases h'.2 with ⟨rfl, _⟩ | ⟨g', cap', cur', rfl, _, hg', _⟩
    · cases c
    · have : g = g' := Option.some.inj c
      subst this
      rw [hg] at hg'
      injection hg' with q1
      injection q1 with _ q2
      exact absurd q2 hne

/-- An empty row behind the others. -/
theorem Nest.push {w u u' : World} {lo hi g cap : Nat} {v : Value} {gs : List (List ByteArray)} {vs : List Value} (h : Nest w lo hi v gs vs) (hu : Below w.heap.size w u) (hg : u.grownBy u' v.ownBlock) (ho : u'.ownsRow lo 25 1 (.slice (some ⟨g, 0, none⟩) (gs.length + 1) cap) (gs.length + 1) (vs ++ [.slice none 0 0])) :
    Nest u' lo u'.heap.size (.slice (some ⟨g, 0, none⟩) (gs.length + 1) cap) (gs ++ [[]]) (vs ++ [.slice none 0 0]) := by
  have h2 := h.below hu
  refine ⟨Nat.le_refl _, by simp [h.len], by simpa using ho, fun b hb => (World.ownsRow.lt ho b hb).2, fun k q hq => ?_, fun i j x y hij hx hy => ?_⟩
  · by_cases c : k < gs.length
    · rw [List.getElem?_append_left c] at hq
      obtain ⟨x, hx, hI, _⟩ := h2.ins k q hq
      have hI2 := World.ownsRow.kept hI hg (own_sym (h2.apart hI))
      exact ⟨x, by rw [List.getElem?_append_left (by rw [h.len]; exact c)]; exact hx, hI2, fun b hb => (World.ownsRow.lt hI2 b hb).2⟩
    · have hk := (List.getElem?_eq_some_iff.1 hq).1
      have : k = gs.length := by simp at hk; omega
      subst this
      simp at hq
      subst hq
      exact ⟨.slice none 0 0, by rw [← h.len]; simp, ⟨rfl, .inl ⟨rfl, rfl⟩⟩, fun b hb => by cases hb⟩
  · have lx := (List.getElem?_eq_some_iff.1 hx).1
    have ly := (List.getElem?_eq_some_iff.1 hy).1
    simp at lx ly
    by_cases ci : i < vs.length
    · rw [List.getElem?_append_left ci] at hx
      by_cases cj : j < vs.length
      · rw [List.getElem?_append_left cj] at hy
        exact h.two i j x y hij hx hy
      · have : j = vs.length := by omega
        subst this
        simp at hy
        subst hy
        cases e : x.ownBlock with
        | none => exact .inl rfl
        | some b => exact .inr (fun c => by cases c)
    · have : i = vs.length := by omega
      subst this
      simp at hx
      subst hx
      exact .inl rfl

/-- A text behind those of one row. -/
theorem Nest.put {w u u' : World} {lo hi gv cv b cb k : Nat} {gs : List (List ByteArray)} {vs : List Value} {x : Value} {q : List ByteArray} {s : ByteArray} (h : Nest w lo hi (.slice (some ⟨gv, 0, none⟩) gs.length cv) gs vs) (hu : Below w.heap.size w u) (hx : vs[k]? = some x) (hk : gs[k]? = some q) (hg : u.grownBy u' x.ownBlock)
    (ho : Strs u' lo (.slice (some ⟨b, 0, none⟩) (q.length + 1) cb) (q ++ [s])) (hb : x.ownBlock = some b ∨ w.heap.size ≤ b) :
    Nest (u'.setCell ⟨gv, k, none⟩ (.slice (some ⟨b, 0, none⟩) (q.length + 1) cb)) lo u'.heap.size (.slice (some ⟨gv, 0, none⟩) gs.length cv) (gs.set k (q ++ [s])) (vs.set k (.slice (some ⟨b, 0, none⟩) (q.length + 1) cb)) := by
  have h2 := h.below hu
  obtain ⟨x0, hx0, hI0, _⟩ := h2.ins k q hk
  rw [hx] at hx0
  obtain rfl : x = x0 := Option.some.inj hx0
  have hkl := (List.getElem?_eq_some_iff.1 hk).1
  have hrow := World.ownsRow.kept h2.row hg (h2.apart hI0)
  obtain ⟨r1, r2⟩ := hrow.stored k (.slice (some ⟨b, 0, none⟩) (q.length + 1) cb)
  have hs : (u'.setCell ⟨gv, k, none⟩ (.slice (some ⟨b, 0, none⟩) (q.length + 1) cb)).heap.size = u'.heap.size := by simp [World.setCell]
  refine ⟨by rw [hs]; exact Nat.le_refl _, by simpa using h.len, by simpa using r1, fun j hj => by have := (World.ownsRow.lt hrow j hj).2; exact this, fun j p hp => ?_, fun i j y z hij hy hz => ?_⟩
  · by_cases c : k = j
    · subst c
      rw [List.getElem?_set_self hkl] at hp
      obtain rfl := Option.some.inj hp
      have hq2 := World.ownsRow.kept ho r2 (own_types ho hrow (by decide))
      exact ⟨_, by rw [List.getElem?_set_self (by rw [h.len]; exact hkl)], hq2, fun d hd => (World.ownsRow.lt ho d hd).2⟩
    · rw [List.getElem?_set_ne c] at hp
      obtain ⟨y, hy, hJ, _⟩ := h2.ins j p hp
      have hJ2 := World.ownsRow.kept hJ hg (h.two j k y x (fun e => c e.symm) hy hx)
      exact ⟨y, by rw [List.getElem?_set_ne c]; exact hy, World.ownsRow.kept hJ2 r2 (own_types hJ2 hrow (by decide)), fun d hd => (World.ownsRow.lt hJ2 d hd).2⟩
  · have key : ∀ (j : Nat) (z : Value), k ≠ j → vs[j]? = some z → z.ownBlock = none ∨ z.ownBlock ≠ some b := fun j z hkj hz => by
      have hjl : j < gs.length := by rw [← h.len]; exact (List.getElem?_eq_some_iff.1 hz).1
      obtain ⟨z0, hz0, hJ, _⟩ := h.ins j gs[j] (List.getElem?_eq_getElem hjl)
      rw [hz] at hz0
      obtain rfl : z = z0 := Option.some.inj hz0
      rcases hb with hb | hb
      · rw [← hb]
        exact h.two j k z x (fun e => hkj e.symm) hz hx
      · cases e : z.ownBlock with
        | none => exact .inl rfl
        | some d =>
          refine .inr fun c => ?_
          have := (World.ownsRow.lt hJ d e).2
          have := Option.some.inj c
          omega
    by_cases ci : k = i
    · subst ci
      rw [List.getElem?_set_self (by rw [h.len]; exact hkl)] at hy
      rw [List.getElem?_set_ne hij] at hz
      obtain rfl := Option.some.inj hy
      exact own_sym (key j z hij hz)
    · rw [List.getElem?_set_ne ci] at hy
      by_cases cj : k = j
      · subst cj
        rw [List.getElem?_set_self (by rw [h.len]; exact hkl)] at hz
        obtain rfl := Option.some.inj hz
        exact key i y ci hy
      · rw [List.getElem?_set_ne cj] at hz
        exact h.two i j y z hij hy hz
end Go.Proofs.YtanfebccenfffahGreatDoor

namespace Go.Proofs.YtanfebccenfffahGreatDoor
open Go.RowKit

def rowsD {H : Type} (rows : List (List Int)) : DataW H := .agg (rows.map fun row => .agg (row.map fun z => .lit (.int .i64 z)))

theorem cells_rows {H : Type} {enc : TypeId × Value → H} {P : Program} {w : World} {base : Nat} {sp : Nat → Bool} {held : Bool} {fuel : Nat} {t e ti : TypeId} {n m : Nat} {fs : Array Field} {cs : List Value} {rows : List (List Int)} {p : List MemPlace}
    (ht : P.underlying t = some (.array n e)) (he : P.underlying e = some (.struct fs)) (hce : P.cellsOf e = m) (hfs : fs.size = m)
    (hf : ∀ (j : Nat) (f : Field), fs[j]? = some f → f.offset = j ∧ f.type = ti) (hti : P.underlying ti = some (.int .i64)) (hci : P.cellsOf ti = 1)
    (h : DataW.trod enc P w base sp held fuel t cs = some (rowsD rows, p)) :
    cs.length = P.cellsOf t ∧ ∀ (i : Nat) (row : List Int) (j : Nat) (z : Int), rows[i]? = some row → row[j]? = some z → cs[i * m + j]? = some (.int .i64 z) := by
  obtain ⟨xs, m1, -, hx, hcl, hxl, hel⟩ := DataW.trod_array ht h
  refine ⟨hcl, ?_⟩
  intro i row j z hi hj
  have hx1 : rows.map (fun row => (DataW.agg (row.map fun z => .lit (.int .i64 z)) : DataW H)) = xs.map (·.1) := by
    have := congrArg Prod.fst hx
    simpa [rowsD] using this
  have h1 : (xs.map (·.1))[i]? = some (DataW.agg (row.map fun z => .lit (.int .i64 z))) := by rw [← hx1]; simp [hi]
  rw [List.getElem?_map, Option.map_eq_some_iff] at h1
  obtain ⟨x, hxi, hx2⟩ := h1
  have hlt := (List.getElem?_eq_some_iff.1 hxi).1
  have h2 := hel i (by omega)
  rw [hxi] at h2
  obtain ⟨ys, n1, -, hy, -, hyl, hfl⟩ := DataW.trod_struct he h2
  have hy1 : row.map (fun z => (DataW.lit (.int .i64 z) : DataW H)) = ys.map (·.1) := by
    have := congrArg Prod.fst hy
    rw [hx2] at this
    simpa using this
  have h3 : (ys.map (·.1))[j]? = some (DataW.lit (.int .i64 z)) := by rw [← hy1]; simp [hj]
  rw [List.getElem?_map, Option.map_eq_some_iff] at h3
  obtain ⟨y, hyj, hy2⟩ := h3
  have hjl := (List.getElem?_eq_some_iff.1 hyj).1
  obtain ⟨f, hfj⟩ : ∃ f, fs[j]? = some f := ⟨fs[j]'(by omega), by simp⟩
  obtain ⟨o1, o2⟩ := hf j f hfj
  have h4 := hfl j f hfj
  rw [hyj, o1, o2, hci] at h4
  obtain ⟨k, e1, e2, _⟩ := DataW.trod_int hti h4
  have e3 : k = z := by rw [e2] at hy2; simpa using hy2
  subst e3
  have := congrArg (·[0]?) e1
  simp only [List.getElem?_take, List.getElem?_drop, hce] at this
  rw [if_pos (by omega), if_pos (by omega)] at this
  simpa using this

/-- The variable's block holds these integers. -/
def Held (w : World) (g : Nat) (zs : List Int) : Prop := ∃ t fr, w.heap[g]? = some (.cells (zs.map (Value.int .i64)).toArray t fr)

theorem Held.lt {w : World} {g : Nat} {zs : List Int} (h : Held w g zs) : g < w.heap.size := by
  obtain ⟨t, fr, h⟩ := h
  exact (Array.getElem?_eq_some_iff.1 h).1

theorem Held.below {w w' : World} {g B : Nat} {zs : List Int} (h : Held w g zs) (hb : Below B w w') (hg : g < B) : Held w' g zs := by
  obtain ⟨t, fr, h⟩ := h
  exact ⟨t, fr, by rw [hb.block g hg]; exact h⟩

theorem Held.drew {w : World} {g : Nat} {zs : List Int} (h : Held w g zs) : Held w.drew g zs := h

theorem held_of_head {P : Program} {W : World} {name : String} {rows : List (List Int)} {flat : List Int} {rest : List (String × DataW Unit)} {g : Nat} {t e ti : TypeId} {n m : Nat} {fs : Array Field}
    (hg : P.globalNamed name = some g) (hty : (P.globals[g]?).map (·.type) = some t) (ht : P.underlying t = some (.array n e)) (he : P.underlying e = some (.struct fs)) (hce : P.cellsOf e = m) (hfs : fs.size = m)
    (hf : ∀ (j : Nat) (f : Field), fs[j]? = some f → f.offset = j ∧ f.type = ti) (hti : P.underlying ti = some (.int .i64)) (hci : P.cellsOf ti = 1)
    (hct : P.cellsOf t = flat.length) (hfl : ∀ i ∈ List.range flat.length, ((rows[i / m]?).bind (·[i % m]?)) = flat[i]?)
    (h : laidMet P ((name, rowsD rows) :: rest) W) : Held W g flat := by
  obtain ⟨ps, ⟨g', t', cs, fuel, p, q, hg', ht', hvar, hd, _, _⟩, _⟩ := h
  obtain rfl := Option.some.inj (hg.symm.trans hg')
  obtain rfl := Option.some.inj (hty.symm.trans ht')
  obtain ⟨hl, h1⟩ := cells_rows ht he hce hfs hf hti hci hd
  have hcs : cs = (flat.map (Value.int .i64)).toArray := by
    apply Array.ext'
    simp only
    apply List.ext_getElem?
    intro i
    by_cases hi : i < flat.length
    · have h2 := hfl i (by simpa using hi)
      rw [List.getElem?_eq_getElem hi] at h2
      obtain ⟨row, hr, hz⟩ := Option.bind_eq_some_iff.1 h2
      have := h1 (i / m) row (i % m) _ hr hz
      rw [show i / m * m + i % m = i by rw [Nat.mul_comm]; exact Nat.div_add_mod i m] at this
      rw [this]; simp [hi]
    · rw [List.getElem?_eq_none (by omega), List.getElem?_eq_none (by simp; omega)]
  unfold World.var? at hvar
  rw [hg] at hvar
  simp only [Option.bind_some] at hvar
  split at hvar
  · rename_i c t fr hb
    cases hvar
    exact ⟨t, fr, by rw [hb, hcs]⟩
  · cases hvar

def marksT : List (List Int) := [[824, 1], [807, 202], [808, 202], [803, 220], [817, 220], [768, 230], [769, 230], [770, 230], [771, 230], [772, 230], [774, 230], [775, 230], [776, 230], [778, 230], [780, 230]]
def marksF : List Int := marksT.flatten

theorem trodVars_len {H : Type} {enc : TypeId × Value → H} {P : Program} {w : World} {sp : Nat → Bool} : ∀ {ns : List String} {gs : List (DataW H)} {ps : List MemPlace}, DataW.TrodVars enc P w sp ns gs ps → gs.length = ns.length
  | [], [], _, _ => rfl
  | [], _ :: _, _, h => h.elim
  | _ :: _, [], _, h => h.elim
  | _ :: _, _ :: _, _, h => by
    obtain ⟨_, _, _, _, _, _, _, _, _, _, hs, _⟩ := h
    simp [trodVars_len hs]

/-- The program's table of capital letters. -/
def capT : List (List Int) := [[192, 65, 768], [193, 65, 769], [194, 65, 770], [195, 65, 771], [196, 65, 776], [197, 65, 778], [199, 67, 807], [200, 69, 768], [201, 69, 769], [202, 69, 770], [203, 69, 776], [204, 73, 768], [205, 73, 769], [206, 73, 770], [207, 73, 776], [209, 78, 771], [210, 79, 768], [211, 79, 769], [212, 79, 770], [213, 79, 771], [214, 79, 776], [217, 85, 768], [218, 85, 769], [219, 85, 770], [220, 85, 776], [221, 89, 769]]
def capF : List Int := capT.flatten
def othT : List (List Int) := [[255, 121, 776], [7844, 194, 769], [7845, 226, 769], [7779, 115, 803], [7785, 7779, 775]]
def othF : List Int := othT.flatten

theorem gMarks : Tryz.prog.globalNamed "loop.example/g00158/impl.marks" = some 0 := by kernel_rfl
theorem tMarks : (Tryz.prog.globals[0]?).map (·.type) = some 142 := by kernel_rfl
theorem gCap : Tryz.prog.globalNamed "loop.example/g00158/impl.capitalPairs" = some 1 := by kernel_rfl
theorem tCap : (Tryz.prog.globals[1]?).map (·.type) = some 154 := by kernel_rfl
theorem gOth : Tryz.prog.globalNamed "loop.example/g00158/impl.otherPairs" = some 2 := by kernel_rfl
theorem tOth : (Tryz.prog.globals[2]?).map (·.type) = some 156 := by kernel_rfl

theorem marks_held {W : World} {rest : List (String × DataW Unit)} (h : laidMet Tryz.prog (("loop.example/g00158/impl.marks", Rows.laid_loop_example_g00158_impl_marks) :: rest) W) : Held W 0 marksF :=
  held_of_head (rows := marksT) (m := 2) (ti := 3) gMarks tMarks Tryz.underlying142 Tryz.underlying141 (by kernel_rfl) rfl
    (by intro j f h; rcases j with _ | _ | j <;> simp at h <;> (subst h; exact ⟨rfl, rfl⟩)) Tryz.underlying3 (by kernel_rfl) (by kernel_rfl) (by decide) h
theorem cap_held {W : World} {rest : List (String × DataW Unit)} (h : laidMet Tryz.prog (("loop.example/g00158/impl.capitalPairs", Rows.laid_loop_example_g00158_impl_capitalPairs) :: rest) W) : Held W 1 capF :=
  held_of_head (rows := capT) (m := 3) (ti := 3) gCap tCap Tryz.underlying154 Tryz.underlying137 (by kernel_rfl) rfl
    (by intro j f h; rcases j with _ | _ | _ | j <;> simp at h <;> (subst h; exact ⟨rfl, rfl⟩)) Tryz.underlying3 (by kernel_rfl) (by kernel_rfl) (by decide) h
theorem oth_held {W : World} {rest : List (String × DataW Unit)} (h : laidMet Tryz.prog (("loop.example/g00158/impl.otherPairs", Rows.laid_loop_example_g00158_impl_otherPairs) :: rest) W) : Held W 2 othF :=
  held_of_head (rows := othT) (m := 3) (ti := 3) gOth tOth Tryz.underlying156 Tryz.underlying137 (by kernel_rfl) rfl
    (by intro j f h; rcases j with _ | _ | _ | j <;> simp at h <;> (subst h; exact ⟨rfl, rfl⟩)) Tryz.underlying3 (by kernel_rfl) (by kernel_rfl) (by decide) h
end Go.Proofs.YtanfebccenfffahGreatDoor

namespace Go.Proofs.YtanfebccenfffahGreatDoor
open Go.RowKit

def marksA : Array Value := (marksF.map (Value.int .i64)).toArray

theorem marks_index (k : Nat) (hk : k < 15) (w : World) : (Instr.index 142 (.agg marksA) (.int .i64 k)).run Tryz.prog w = .ok (.agg #[.int .i64 (at0 (marksT.getD k []) 0), .int .i64 (at0 (marksT.getD k []) 1)]) w := by
  iterate 15 (rcases k with _ | k; · kernel_rfl)
  omega

theorem marks_hit : ∀ t ∈ marksT, cls (at0 t 0) = at0 t 1 := by decide
theorem marks_none {r : Int} (h : ∀ t ∈ marksT, at0 t 0 ≠ r) : cls r = 0 := by
  simp [marksT, at0] at h
  unfold cls
  repeat' split
  all_goals omega

def NoMark (r : Int) (k : Nat) : Prop := ∀ j, j < k → at0 (marksT.getD j []) 0 ≠ r

set_option maxRecDepth 100000 in
set_option maxHeartbeats 2000000 in
theorem implClass_any (r : Int) (w : World) (hm : Held w 0 marksF) : Calls Tryz.prog 95 #[.int .i64 r] w fun e w' => e = .returned (.int .i64 (cls r)) ∧ Below w.heap.size w w' := by
  obtain ⟨t, fr, hh0⟩ := hm
  have hh : w.heap[0]? = some (.cells marksA t fr) := hh0
  clear hh0
  go_enter Tryz.func95, Tryz.ntmps95
  go_wp2_with (refine wpList_load_row rfl 142 (.global 0) rfl 0 rfl t marksA fr _ hh Tryz.underlying142 rfl (by kernel_rfl) ?_)
  clear hh
  go_loopw [6] (fun i wr => ∃ k : Nat, k ≤ 15 ∧ i = .int .i64 k ∧ Hid (NoMark r k) ∧ Below w.heap.size w wr) (fun i _ => 15 - (intOf i).toNat)
  case atStart => exact ⟨0, Nat.zero_le _, rfl, fun j hj => by omega, Below.refl _ _⟩
  case round =>
    obtain ⟨k, hk, rfl, HN, hb⟩ := hrel
    by_cases hlt : k < 15
    · have hi := fun w => marks_index k hlt w
      have ht : marksT.getD k [] ∈ marksT := by
        rw [List.getD_eq_getElem?_getD, List.getElem?_eq_getElem (show k < marksT.length from hlt)]; exact List.getElem_mem _
      have HH : Hid (cls (at0 (marksT.getD k []) 0) = at0 (marksT.getD k []) 1) := marks_hit _ ht
      have HK : Hid (at0 (marksT.getD k []) 0 ≠ r → NoMark r (k + 1)) := fun h j hj => by
        by_cases e : j = k
        · subst e; exact h
        · exact HN.out j (by omega)
      clear HN ht
      generalize at0 (marksT.getD k []) 0 = a at *
      generalize at0 (marksT.getD k []) 1 = b at *
      have hk8 : (k : Int) < 15 := by omega
      by_cases e : a = r
      · subst e
        go_wp2
        go_ret
        exact ⟨ret_i HH.out.symm, hb.alloc hb.size _⟩
      · have e2 : (a == r) = false := by simpa using e
        have HN2 : Hid (NoMark r (k + 1)) := HK.out e
        clear e HK
        go_wp2
        exact ⟨⟨k + 1, by omega, by go_num, HN2, hb.alloc hb.size _⟩, by simp [intOf]; omega⟩
    · have HC : Hid (cls r = 0) := marks_none fun t ht => by
        obtain ⟨j, hj⟩ := List.mem_iff_getElem?.1 ht
        have h1 := (List.getElem?_eq_some_iff.1 hj).1
        have h2 : marksT.length = 15 := rfl
        have := HN.out j (by omega)
        rw [List.getD_eq_getElem?_getD, hj] at this
        exact this
      clear HN
      go_wp2
      go_ret
      exact ⟨ret_i HC.out.symm, hb⟩
end Go.Proofs.YtanfebccenfffahGreatDoor

namespace Go.Proofs.YtanfebccenfffahGreatDoor
open Go.RowKit

/-- A row of integers of the call's own, its block and its capacity told. -/
def Own (w : World) (B g cap n : Nat) (l : List Int) : Prop := w.ownsRow B 3 1 (.slice (some ⟨g, 0, none⟩) n cap) n (l.map (Value.int .i64))

theorem Own.len {w : World} {B g cap n : Nat} {l : List Int} (h : Own w B g cap n l) : l.length = n := by simpa using h.1

theorem Own.cell {w : World} {B g cap n : Nat} {l : List Int} (h : Own w B g cap n l) (j : Nat) (hj : j < n) : w.cell? ⟨g, j, none⟩ = some (.int .i64 (at0 l j)) := by
  have h1 := World.ownsRow.cellAt h j (by omega)
  rw [h1]
  have := h.len
  simp [at0, show j < l.length by omega]

theorem below_grownBy {w w' : World} (hb : Below w.heap.size w w') (row : Option Nat) : w.grownBy w' row := ⟨hb.os, hb.tape, hb.output, hb.size, fun k hk _ => hb.block k hk⟩

theorem grown_refl (w : World) (row : Option Nat) : w.grownBy w row := ⟨rfl, rfl, rfl, Nat.le_refl _, fun _ _ _ => rfl⟩

theorem Own.below {w w' : World} {B g cap n : Nat} {l : List Int} (h : Own w B g cap n l) (hb : Below w.heap.size w w') : Own w' B g cap n l :=
  World.ownsRow.kept h (row := none) (below_grownBy hb none) (by cases hx : (Value.slice (some ⟨g, 0, none⟩) n cap).ownBlock <;> simp)

theorem held_grown {w w' : World} {g h : Nat} {zs : List Int} (hh : Held w h zs) (hg : w.grownBy w' (some g)) (hne : h ≠ g) : Held w' h zs := by
  obtain ⟨t, fr, e⟩ := hh
  refine ⟨t, fr, ?_⟩
  rw [hg.block h ((Array.getElem?_eq_some_iff.1 e).1) (fun e => hne (Option.some.inj e))]
  exact e

/-- What stands in every world of a round's test. -/
def SH (w : World) (B g cap n : Nat) (l : List Int) (w' : World) : Prop := Own w' B g cap n l ∧ w.grownBy w' (some g) ∧ Held w' 0 marksF

theorem SH.below {w w1 w2 : World} {B g cap n : Nat} {l : List Int} (hb : Below w1.heap.size w1 w2) (h : SH w B g cap n l w1) : SH w B g cap n l w2 :=
  ⟨h.1.below hb, h.2.1.trans (below_grownBy hb _), h.2.2.below hb h.2.2.lt⟩
theorem SH.drew {w w1 : World} {B g cap n : Nat} {l : List Int} (h : SH w B g cap n l w1) : SH w B g cap n l w1.drew := h.below ((Below.refl _ _).drew)

theorem SH.cell {w w1 : World} {B g cap n : Nat} {l : List Int} (h : SH w B g cap n l w1) (j : Nat) (hj : j < n) : w1.cell? ⟨g, j, none⟩ = some (.int .i64 (at0 l j)) := h.1.cell j hj

theorem keepS {w w1 w2 : World} {B g cap n i j : Nat} {l : List Int} (hi : i < n) (hj : j < n) (hb : Below w1.heap.size w1 w2) (h : w1.cell? ⟨g, i, none⟩ = some (.int .i64 (at0 l i)) ∧ w1.cell? ⟨g, j, none⟩ = some (.int .i64 (at0 l j)) ∧ SH w B g cap n l w1) :
    w2.cell? ⟨g, i, none⟩ = some (.int .i64 (at0 l i)) ∧ w2.cell? ⟨g, j, none⟩ = some (.int .i64 (at0 l j)) ∧ SH w B g cap n l w2 :=
  ⟨(h.2.2.below hb).cell i hi, (h.2.2.below hb).cell j hj, h.2.2.below hb⟩

theorem sh_swap {w w1 : World} {B g cap n : Nat} {l : List Int} (hB : 0 < B) (h : SH w B g cap n l w1) (i j : Nat) :
    SH w B g cap n ((l.set i (at0 l j)).set j (at0 l i)) ((w1.setCell ⟨g, i, none⟩ (.int .i64 (at0 l j))).setCell ⟨g, j, none⟩ (.int .i64 (at0 l i))) := by
  have h1 := World.ownsRow.stored h.1 i (.int .i64 (at0 l j))
  have h2 := World.ownsRow.stored h1.1 j (.int .i64 (at0 l i))
  have e3 : ((l.map (Value.int .i64)).set i (.int .i64 (at0 l j))).set j (.int .i64 (at0 l i)) = ((l.set i (at0 l j)).set j (at0 l i)).map (Value.int .i64) := by simp [List.map_set]
  have h3 := h2.1
  rw [e3] at h3
  have hg := h1.2.trans h2.2
  have hne : 0 ≠ g := fun e => by
    have := (World.ownsRow.lt h.1 g rfl).1
    omega
  exact ⟨h3, h.2.1.trans hg, held_grown h.2.2 hg hne⟩

def SOut (w : World) (B g cap n f m : Nat) (l : List Int) (i : Value) (wr : World) : Prop := ∃ k : Nat, k ≤ m ∧ i = .int .i64 k ∧ SH w B g cap n (srtX f l k) wr
def SIn (w : World) (B g cap n f m : Nat) (goal : List Int) (i : Value) (wr : World) : Prop := ∃ (j : Nat) (l : List Int), j < m ∧ i = .int .i64 j ∧ SH w B g cap n l wr ∧ bubX f l j = goal

set_option maxRecDepth 100000 in
set_option maxHeartbeats 4000000 in
theorem sortBy_any (w : World) (B g cap n f m c : Nat) (l : List Int) (hown : Own w B g cap n l) (hB : 0 < B) (hf : f + m ≤ n) (hn : n ≤ 1048576) (hm : Held w 0 marksF) :
    Calls Tryz.prog 96 #[.slice (some ⟨g, f, none⟩) m c, .func (.func 95) #[] #[]] w fun e w' => e = .returned (.tuple #[]) ∧ SH w B g cap n (srtX f l m) w' := by
  go_enter Tryz.func96, Tryz.ntmps96
  go_wp2
  go_loopw [8] (fun i wr => SOut w B g cap n f m l i wr) (fun i _ => m - (intOf i).toNat)
  case atStart => exact ⟨0, Nat.zero_le _, rfl, hown, grown_refl _ _, hm⟩
  case round =>
    clear hown hm
    obtain ⟨k, hk, rfl, hsh⟩ := hrel
    by_cases hlt : k < m
    · go_wp2_with fail
      go_loopw [5] (fun i wr => SIn w B g cap n f m (srtX f l (k + 1)) i wr) (fun i _ => (intOf i).toNat)
      case atStart => exact ⟨k, srtX f l k, hlt, rfl, hsh, rfl⟩
      case round =>
        clear hsh
        obtain ⟨j, l1, hj, rfl, hsh, hgoal⟩ := hrel
        have HG : Hid _ := hgoal
        clear hgoal
        cases j with
        | zero =>
          go_wp2
          go_quiet (fail)
          go_wp2
          have he : l1 = srtX f l (k + 1) := HG.out
          subst he
          exact ⟨⟨k + 1, by omega, by go_num, hsh.below (below_drewN (Below.refl _ _) _)⟩, by simp [intOf]; omega⟩
        | succ p =>
          have hp1 : f + p < n := by omega
          have hp2 : f + (p + 1) < n := by omega
          have hq3 : p < m := by omega
          have hw1 : IntKind.i64.wrap ((p : Int) + 1 - 1) = (p : Int) := by rw [IntKind.wrap_i64]; omega
          have hw2 : IntKind.i64.wrap (((p + 1 : Nat) : Int) - 1) = (p : Int) := by rw [IntKind.wrap_i64]; omega
          have hw3 : IntKind.i64.wrap (p : Int) = (p : Int) := by rw [IntKind.wrap_i64]; omega
          have hq1 : (p : Int) < (m : Int) := by omega
          have hq2 : (p : Int) + 1 < (m : Int) := by omega
          have hS : wr.cell? ⟨g, f + p, none⟩ = some (.int .i64 (at0 l1 (f + p))) ∧ wr.cell? ⟨g, f + (p + 1), none⟩ = some (.int .i64 (at0 l1 (f + (p + 1)))) ∧ SH w B g cap n l1 wr := ⟨hsh.cell _ hp1, hsh.cell _ hp2, hsh⟩
          have hS2 := keepS hp1 hp2 ((Below.refl wr.heap.size wr).drew) hS
          go_wp2_with fail
          go_region_held (fun w' => w'.cell? ⟨g, f + p, none⟩ = some (.int .i64 (at0 l1 (f + p))) ∧ w'.cell? ⟨g, f + (p + 1), none⟩ = some (.int .i64 (at0 l1 (f + (p + 1)))) ∧ SH w B g cap n l1 w')
            (first | exact hS2 | exact keepS hp1 hp2 (by assumption) (by assumption) | exact keepS hp1 hp2 (by assumption) ⟨by assumption, by assumption, by assumption⟩)
            (first | (go_at_call 95; refine (implClass_any _ _ ?_).mono ?_; (first | exact (show SH w B g cap n l1 _ by assumption).2.2 | exact (show _ ∧ _ ∧ SH w B g cap n l1 _ by assumption).2.2.2.2); rintro e w' ⟨rfl, hbw⟩))
          all_goals
            have hE : SH w B g cap n l1 w' := (show w'.cell? ⟨g, f + p, none⟩ = _ ∧ _ ∧ SH w B g cap n l1 w' by assumption).2.2
            clear hS hS2 hsh
            by_cases cc : cls (at0 l1 (f + (p + 1))) < cls (at0 l1 (f + p))
            · have HG2 : Hid (bubX f ((l1.set (f + p) (at0 l1 (f + (p + 1)))).set (f + (p + 1)) (at0 l1 (f + p))) p = srtX f l (k + 1)) := (bubX_go f l1 p cc).symm.trans HG.out
              have HW := sh_swap hB hE (f + p) (f + (p + 1))
              have e1 := hE.cell _ hp1
              have e2 := hE.cell _ hp2
              have f1 := World.ownsRow.frozenAt hE.1 (f + p)
              have f2 := World.ownsRow.frozenAt hE.1 (f + (p + 1))
              clear HG hE
              go_wp2_with fail
              go_region
              all_goals go_wp2
              all_goals exact ⟨⟨p, _, by omega, rfl, SH.drew HW, HG2.out⟩, by simp [intOf]⟩
            · have he : l1 = srtX f l (k + 1) := (bubX_stop f l1 p cc).symm.trans HG.out
              clear HG
              go_wp2
              subst he
              exact ⟨⟨k + 1, by omega, by go_num, hE⟩, by simp [intOf]; omega⟩
    · have hkm : k = m := by omega
      subst hkm
      go_wp2
      go_end0
      exact ⟨rfl, hsh⟩

theorem SH.from {w w1 w2 : World} {B g cap n : Nat} {l l' : List Int} (h : SH w B g cap n l w1) (k : SH w1 B g cap n l' w2) : SH w B g cap n l' w2 := ⟨k.1, h.2.1.trans k.2.1, k.2.2⟩

set_option maxRecDepth 100000 in
set_option maxHeartbeats 1000000 in
theorem sortBy_none (w : World) (a : Option Addr) (c : Nat) : Calls Tryz.prog 96 #[.slice a 0 c, .func (.func 95) #[] #[]] w fun e w' => e = .returned (.tuple #[]) ∧ w' = w := by
  go_enter Tryz.func96, Tryz.ntmps96
  go_wp2
  go_loop [8] (fun i => i = .int .i64 0) (fun _ => 0)
  case atStart => rfl
  case round =>
    subst hrel
    go_wp2
    go_end0
    exact ⟨rfl, rfl⟩

set_option maxRecDepth 100000 in
set_option maxHeartbeats 1000000 in
theorem sortRuns_nil (w : World) : Calls Tryz.prog 88 #[.slice none 0 0] w fun e w' => e = .returned (.tuple #[]) ∧ w' = w := by
  have SB := fun w a c => sortBy_none w a c
  go_enter Tryz.func88, Tryz.ntmps88
  go_wp2
  go_loop [2, 7] (fun f i => f = .int .i64 0 ∧ i = .int .i64 0) (fun _ _ => 0)
  case atStart => exact ⟨rfl, rfl⟩
  case round =>
    obtain ⟨rfl, rfl⟩ := hrel
    go_wp2_with (go_at_call 96; refine (SB _ _ _).mono ?_; rintro e w1 ⟨rfl, rfl⟩)
    go_end0
    exact ⟨rfl, rfl⟩
end Go.Proofs.YtanfebccenfffahGreatDoor

namespace Go.Proofs.YtanfebccenfffahGreatDoor
open Go.RowKit

def ktC (x : KT) : List Value := [.string x.key, .string x.text]
def ktAll (l : List KT) : List Value := l.flatMap ktC

theorem ktAll_len (l : List KT) : (ktAll l).length = l.length * 2 := by
  induction l with
  | nil => rfl
  | cons x l ih =>
    unfold ktAll at ih ⊢
    rw [List.flatMap_cons, List.length_append, ih, List.length_cons]
    simp [ktC]
    omega

theorem ktAll_at (l : List KT) (k i : Nat) (x : KT) (h : l[k]? = some x) (hi : i < 2) : (ktAll l)[k * 2 + i]? = (ktC x)[i]? := by
  induction l generalizing k with
  | nil => simp at h
  | cons y l ih =>
    show (ktC y ++ ktAll l)[k * 2 + i]? = _
    cases k with
    | zero =>
      simp at h
      subst h
      rw [Nat.zero_mul, Nat.zero_add, List.getElem?_append_left (by show i < 2; omega)]
    | succ k =>
      rw [List.getElem?_append_right (by show 2 ≤ _; omega)]
      have : (k + 1) * 2 + i - (ktC y).length = k * 2 + i := by show (k + 1) * 2 + i - 2 = _; omega
      rw [this]
      exact ih k (by simpa using h)

theorem ktAll_set (l : List KT) (k : Nat) (x : KT) (h : k < l.length) : ktAll (l.set k x) = ((ktAll l).set (k * 2) (.string x.key)).set (k * 2 + 1) (.string x.text) := by
  induction l generalizing k with
  | nil => simp at h
  | cons y l ih =>
    cases k with
    | zero => rfl
    | succ k =>
      have hk : k < l.length := by simpa using h
      show ktC y ++ ktAll (l.set k x) = ((ktC y ++ ktAll l).set ((k + 1) * 2) _).set ((k + 1) * 2 + 1) _
      rw [ih k hk, List.set_append_right _ _ (by show 2 ≤ _; omega), List.set_append_right _ _ (by show 2 ≤ _; omega)]
      have q0 : (k + 1) * 2 - (ktC y).length = k * 2 := by show (k + 1) * 2 - 2 = _; omega
      have q1 : (k + 1) * 2 + 1 - (ktC y).length = k * 2 + 1 := by show (k + 1) * 2 + 1 - 2 = _; omega
      rw [q0, q1]

theorem ktAll_snoc (l : List KT) (x : KT) : ktAll (l ++ [x]) = ktAll l ++ ktC x := by simp [ktAll]

/-- A row of texts with keys of the call's own. -/
def KTs (w : World) (B : Nat) (v : Value) (l : List KT) : Prop := w.ownsRow B 68 2 v l.length (ktAll l)

theorem KTs.form {w : World} {B : Nat} {v : Value} {l : List KT} (h : KTs w B v l) : (v = .slice none 0 0 ∧ l = []) ∨ ∃ g cap, v = .slice (some ⟨g, 0, none⟩) l.length cap := by
  rcases h.2 with ⟨a, b⟩ | ⟨g, cap, cur, a, _⟩
  · refine .inl ⟨a, List.eq_nil_of_length_eq_zero ?_⟩
    have h2 := ktAll_len l
    rw [b] at h2
    simp at h2
    omega
  · exact .inr ⟨g, cap, a⟩

theorem KTs.below {w w' : World} {B : Nat} {v : Value} {l : List KT} (h : KTs w B v l) (hb : Below w.heap.size w w') : KTs w' B v l :=
  World.ownsRow.kept h (row := none) ⟨hb.os, hb.tape, hb.output, hb.size, fun k hk _ => hb.block k hk⟩ (by cases h : v.ownBlock <;> simp)

theorem KTs.cells {w : World} {B n g cap : Nat} {l : List KT} (h : w.ownsRow B 68 2 (.slice (some ⟨g, 0, none⟩) n cap) n (ktAll l)) (k : Nat) (x : KT) (hx : l[k]? = some x) :
    w.cell? ⟨g, k * 2, none⟩ = some (.string x.key) ∧ w.cell? ⟨g, k * 2 + 1, none⟩ = some (.string x.text) := by
  have hk := (List.getElem?_eq_some_iff.1 hx).1
  have hl := h.1
  rw [ktAll_len] at hl
  have h0 := World.ownsRow.cellAt h (k * 2) (by omega)
  have h1 := World.ownsRow.cellAt h (k * 2 + 1) (by omega)
  rw [show (ktAll l)[k * 2]? = _ from ktAll_at l k 0 x hx (by omega)] at h0
  rw [ktAll_at l k 1 x hx (by omega)] at h1
  exact ⟨h0, h1⟩

/-- What stands in every world of a round's test. -/
def SHK (w : World) (B g cap n : Nat) (l : List KT) (w' : World) : Prop := l.length = n ∧ w'.ownsRow B 68 2 (.slice (some ⟨g, 0, none⟩) n cap) n (ktAll l) ∧ w.grownBy w' (some g)

theorem SHK.below {w w1 w2 : World} {B g cap n : Nat} {l : List KT} (hb : Below w1.heap.size w1 w2) (h : SHK w B g cap n l w1) : SHK w B g cap n l w2 :=
  ⟨h.1, World.ownsRow.kept h.2.1 (row := none) (below_grownBy hb none) (by cases hx : (Value.slice (some ⟨g, 0, none⟩) n cap).ownBlock <;> simp), h.2.2.trans (below_grownBy hb _)⟩

theorem ktAt_of {l : List KT} {k : Nat} (h : k < l.length) : l[k]? = some (ktAt l k) := by
  unfold ktAt
  rw [List.getElem?_eq_getElem h]; rfl

theorem SHK.cell {w w1 : World} {B g cap n : Nat} {l : List KT} (h : SHK w B g cap n l w1) (j : Nat) (hj : j < n) : w1.cell? ⟨g, j * 2, none⟩ = some (.string (ktAt l j).key) ∧ w1.cell? ⟨g, j * 2 + 1, none⟩ = some (.string (ktAt l j).text) :=
  KTs.cells h.2.1 j _ (ktAt_of (by rw [h.1]; exact hj))

theorem keepK {w w1 w2 : World} {B g cap n i j : Nat} {l : List KT} (hi : i < n) (hj : j < n) (hb : Below w1.heap.size w1 w2)
    (h : w1.cell? ⟨g, i * 2, none⟩ = some (.string (ktAt l i).key) ∧ w1.cell? ⟨g, i * 2 + 1, none⟩ = some (.string (ktAt l i).text) ∧ w1.cell? ⟨g, j * 2, none⟩ = some (.string (ktAt l j).key) ∧ w1.cell? ⟨g, j * 2 + 1, none⟩ = some (.string (ktAt l j).text) ∧ SHK w B g cap n l w1) :
    w2.cell? ⟨g, i * 2, none⟩ = some (.string (ktAt l i).key) ∧ w2.cell? ⟨g, i * 2 + 1, none⟩ = some (.string (ktAt l i).text) ∧ w2.cell? ⟨g, j * 2, none⟩ = some (.string (ktAt l j).key) ∧ w2.cell? ⟨g, j * 2 + 1, none⟩ = some (.string (ktAt l j).text) ∧ SHK w B g cap n l w2 := by
  have hs := h.2.2.2.2.below hb
  exact ⟨(hs.cell i hi).1, (hs.cell i hi).2, (hs.cell j hj).1, (hs.cell j hj).2, hs⟩

theorem shk_swap {w w1 : World} {B g cap n : Nat} {l : List KT} (h : SHK w B g cap n l w1) (i j : Nat) (hi : i < n) (hj : j < n) :
    SHK w B g cap n ((l.set i (ktAt l j)).set j (ktAt l i)) ((((w1.setCell ⟨g, i * 2, none⟩ (.string (ktAt l j).key)).setCell ⟨g, i * 2 + 1, none⟩ (.string (ktAt l j).text)).setCell ⟨g, j * 2, none⟩ (.string (ktAt l i).key)).setCell ⟨g, j * 2 + 1, none⟩ (.string (ktAt l i).text)) := by
  have hl := h.1
  have h1 := World.ownsRow.stored h.2.1 (i * 2) (.string (ktAt l j).key)
  have h2 := World.ownsRow.stored h1.1 (i * 2 + 1) (.string (ktAt l j).text)
  have h3 := World.ownsRow.stored h2.1 (j * 2) (.string (ktAt l i).key)
  have h4 := World.ownsRow.stored h3.1 (j * 2 + 1) (.string (ktAt l i).text)
  have hg := ((h1.2.trans h2.2).trans h3.2).trans h4.2
  refine ⟨by simp [hl], ?_, h.2.2.trans hg⟩
  rw [ktAll_set _ j _ (by simp; omega), ktAll_set _ i _ (by omega)]
  exact h4.1

set_option maxRecDepth 100000 in
set_option maxHeartbeats 1000000 in
theorem keyFn_any (k t : ByteArray) (w : World) : Calls Tryz.prog 35 #[.agg #[.string k, .string t]] w fun e w' => e = .returned (.string k) ∧ Below w.heap.size w w' := by
  go_enter Tryz.func35, Tryz.ntmps35
  go_wp2
  go_ret
  exact ⟨rfl, (Below.refl _ _).alloc (Nat.le_refl _) _⟩

def KOut (w : World) (B g cap n : Nat) (l : List KT) (i : Value) (wr : World) : Prop := ∃ k : Nat, k ≤ n ∧ i = .int .i64 k ∧ SHK w B g cap n (srtK l k) wr
def KIn (w : World) (B g cap n : Nat) (goal : List KT) (i : Value) (wr : World) : Prop := ∃ (j : Nat) (l : List KT), j < n ∧ i = .int .i64 j ∧ SHK w B g cap n l wr ∧ bubK l j = goal

set_option maxRecDepth 100000 in
set_option maxHeartbeats 4000000 in
theorem sortK_row (w : World) (B g cap n : Nat) (l : List KT) (hlen : l.length = n) (hown : w.ownsRow B 68 2 (.slice (some ⟨g, 0, none⟩) n cap) n (ktAll l)) (hn : n ≤ 1048576) :
    Calls Tryz.prog 34 #[.slice (some ⟨g, 0, none⟩) n cap, .func (.func 35) #[] #[]] w fun e w' => e = .returned (.tuple #[]) ∧ SHK w B g cap n (srtK l n) w' := by
  go_enter Tryz.func34, Tryz.ntmps34
  go_wp2
  go_loopw [8] (fun i wr => KOut w B g cap n l i wr) (fun i _ => n - (intOf i).toNat)
  case atStart => exact ⟨0, Nat.zero_le _, rfl, hlen, hown, grown_refl _ _⟩
  case round =>
    clear hown hlen
    obtain ⟨k, hk, rfl, hsh⟩ := hrel
    by_cases hlt : k < n
    · go_wp2_with fail
      go_loopw [5] (fun i wr => KIn w B g cap n (srtK l (k + 1)) i wr) (fun i _ => (intOf i).toNat)
      case atStart => exact ⟨k, srtK l k, hlt, rfl, hsh, rfl⟩
      case round =>
        clear hsh
        obtain ⟨j, l1, hj, rfl, hsh, hgoal⟩ := hrel
        have HG : Hid _ := hgoal
        clear hgoal
        cases j with
        | zero =>
          go_wp2
          go_quiet (fail)
          go_wp2
          have he : l1 = srtK l (k + 1) := HG.out
          subst he
          exact ⟨⟨k + 1, by omega, by go_num, hsh.below (below_drewN (Below.refl _ _) _)⟩, by simp [intOf]; omega⟩
        | succ p =>
          have hp1 : p < n := by omega
          have hw1 : IntKind.i64.wrap ((p : Int) + 1 - 1) = (p : Int) := by rw [IntKind.wrap_i64]; omega
          have hw2 : IntKind.i64.wrap (((p + 1 : Nat) : Int) - 1) = (p : Int) := by rw [IntKind.wrap_i64]; omega
          have hw3 : IntKind.i64.wrap (p : Int) = (p : Int) := by rw [IntKind.wrap_i64]; omega
          have hq1 : (p : Int) < (n : Int) := by omega
          have hq2 : (p : Int) + 1 < (n : Int) := by omega
          have hS : wr.cell? ⟨g, p * 2, none⟩ = some (.string (ktAt l1 p).key) ∧ wr.cell? ⟨g, p * 2 + 1, none⟩ = some (.string (ktAt l1 p).text) ∧ wr.cell? ⟨g, (p + 1) * 2, none⟩ = some (.string (ktAt l1 (p + 1)).key) ∧ wr.cell? ⟨g, (p + 1) * 2 + 1, none⟩ = some (.string (ktAt l1 (p + 1)).text) ∧ SHK w B g cap n l1 wr := ⟨(hsh.cell p hp1).1, (hsh.cell p hp1).2, (hsh.cell (p + 1) hj).1, (hsh.cell (p + 1) hj).2, hsh⟩
          have hS2 := keepK hp1 hj ((Below.refl wr.heap.size wr).drew) hS
          have KF := fun k t w => keyFn_any k t w
          go_wp2_with fail
          go_region_held (fun w' => w'.cell? ⟨g, p * 2, none⟩ = some (.string (ktAt l1 p).key) ∧ w'.cell? ⟨g, p * 2 + 1, none⟩ = some (.string (ktAt l1 p).text) ∧ w'.cell? ⟨g, (p + 1) * 2, none⟩ = some (.string (ktAt l1 (p + 1)).key) ∧ w'.cell? ⟨g, (p + 1) * 2 + 1, none⟩ = some (.string (ktAt l1 (p + 1)).text) ∧ SHK w B g cap n l1 w')
            (first | exact hS2 | exact keepK hp1 hj (by assumption) (by assumption) | exact keepK hp1 hj (by assumption) ⟨by assumption, by assumption, by assumption, by assumption, by assumption⟩)
            (first | (go_at_call 35; refine (KF _ _ _).mono ?_; rintro e w' ⟨rfl, hbw⟩))
          all_goals
            have hE : SHK w B g cap n l1 w' := (show w'.cell? ⟨g, p * 2, none⟩ = _ ∧ _ ∧ _ ∧ _ ∧ SHK w B g cap n l1 w' by assumption).2.2.2.2
            clear hS hS2 hsh KF
            cases hl : Op.bytesLess (ktAt l1 p).key.toList (ktAt l1 (p + 1)).key.toList
            · cases hq : ((ktAt l1 p).key.toList == (ktAt l1 (p + 1)).key.toList)
              · have hgt : gtS (ktAt l1 p).key (ktAt l1 (p + 1)).key = true := by unfold gtS ltS eqS; rw [hl, hq]; rfl
                have HG2 : Hid (bubK ((l1.set p (ktAt l1 (p + 1))).set (p + 1) (ktAt l1 p)) p = srtK l (k + 1)) := (bubK_go hgt).symm.trans HG.out
                have HW := shk_swap hE p (p + 1) hp1 hj
                obtain ⟨e1, e2⟩ := hE.cell p hp1
                obtain ⟨e3, e4⟩ := hE.cell (p + 1) hj
                have f1 := World.ownsRow.frozenAt hE.2.1 (p * 2)
                have f2 := World.ownsRow.frozenAt hE.2.1 (p * 2 + 1)
                have f3 := World.ownsRow.frozenAt hE.2.1 ((p + 1) * 2)
                have f4 := World.ownsRow.frozenAt hE.2.1 ((p + 1) * 2 + 1)
                clear HG hE hgt
                go_wp2_with fail
                go_region
                all_goals go_wp2
                all_goals exact ⟨⟨p, _, by omega, rfl, HW.below ((Below.refl _ _).drew), HG2.out⟩, by simp [intOf]⟩
              · have hgt : gtS (ktAt l1 p).key (ktAt l1 (p + 1)).key = false := by unfold gtS ltS eqS; rw [hl, hq]; rfl
                have he : l1 = srtK l (k + 1) := (bubK_stop hgt).symm.trans HG.out
                clear HG hgt
                go_wp2
                subst he
                exact ⟨⟨k + 1, by omega, by go_num, hE⟩, by simp [intOf]; omega⟩
            · have hgt : gtS (ktAt l1 p).key (ktAt l1 (p + 1)).key = false := by unfold gtS ltS; rw [hl]; rfl

              have he : l1 = srtK l (k + 1) := (bubK_stop hgt).symm.trans HG.out
              clear HG hgt
              simp only [Bool.not_true, Bool.false_and]
              go_wp2
              subst he
              exact ⟨⟨k + 1, by omega, by go_num, hE⟩, by simp [intOf]; omega⟩
    · have hkm : k = n := by omega
      subst hkm
      go_wp2
      go_end0
      exact ⟨rfl, hsh⟩
end Go.Proofs.YtanfebccenfffahGreatDoor
