/- Rows of texts with keys, and the program's sortBy over them. -/
import Derived.Test.YtanfebccenfffagGreatDoorPSort4
import Derived.Test.YtanfebccenfffagGreatDoorISort
import Derived.BigRegion
namespace Go.Proofs.YtanfebccenfffagGreatDoor
open Go.RowKit

def ktC (x : KT) : List Value := [.string x.key, .string x.text]
def ktAll (l : List KT) : List Value := l.flatMap ktC

theorem ktAll_len (l : List KT) : (ktAll l).length = l.length * 2 := by
  induction l with
  | nil => rfl
  | cons x l ih =>
    unfold ktAll at ih ⊢
    rw [List.flatMap_cons, List.length_append, ih, List.length_cons]
    simp [ktC]
    omega

theorem ktAll_at (l : List KT) (k i : Nat) (x : KT) (h : l[k]? = some x) (hi : i < 2) : (ktAll l)[k * 2 + i]? = (ktC x)[i]? := by
  induction l generalizing k with
  | nil => simp at h
  | cons y l ih =>
    show (ktC y ++ ktAll l)[k * 2 + i]? = _
    cases k with
    | zero =>
      simp at h
      subst h
      rw [Nat.zero_mul, Nat.zero_add, List.getElem?_append_left (by show i < 2; omega)]
    | succ k =>
      rw [List.getElem?_append_right (by show 2 ≤ _; omega)]
      have : (k + 1) * 2 + i - (ktC y).length = k * 2 + i := by show (k + 1) * 2 + i - 2 = _; omega
      rw [this]
      exact ih k (by simpa using h)

theorem ktAll_set (l : List KT) (k : Nat) (x : KT) (h : k < l.length) : ktAll (l.set k x) = ((ktAll l).set (k * 2) (.string x.key)).set (k * 2 + 1) (.string x.text) := by
  induction l generalizing k with
  | nil => simp at h
  | cons y l ih =>
    cases k with
    | zero => rfl
    | succ k =>
      have hk : k < l.length := by simpa using h
      show ktC y ++ ktAll (l.set k x) = ((ktC y ++ ktAll l).set ((k + 1) * 2) _).set ((k + 1) * 2 + 1) _
      rw [ih k hk, List.set_append_right _ _ (by show 2 ≤ _; omega), List.set_append_right _ _ (by show 2 ≤ _; omega)]
      have q0 : (k + 1) * 2 - (ktC y).length = k * 2 := by show (k + 1) * 2 - 2 = _; omega
      have q1 : (k + 1) * 2 + 1 - (ktC y).length = k * 2 + 1 := by show (k + 1) * 2 + 1 - 2 = _; omega
      rw [q0, q1]

theorem ktAll_snoc (l : List KT) (x : KT) : ktAll (l ++ [x]) = ktAll l ++ ktC x := by simp [ktAll]

/-- A row of texts with keys of the call's own. -/
def KTs (w : World) (B : Nat) (v : Value) (l : List KT) : Prop := w.ownsRow B 52 2 v l.length (ktAll l)

theorem KTs.form {w : World} {B : Nat} {v : Value} {l : List KT} (h : KTs w B v l) : (v = .slice none 0 0 ∧ l = []) ∨ ∃ g cap, v = .slice (some ⟨g, 0, none⟩) l.length cap := by
  rcases h.2 with ⟨a, b⟩ | ⟨g, cap, cur, a, _⟩
  · refine .inl ⟨a, List.eq_nil_of_length_eq_zero ?_⟩
    have h2 := ktAll_len l
    rw [b] at h2
    simp at h2
    omega
  · exact .inr ⟨g, cap, a⟩

theorem KTs.below {w w' : World} {B : Nat} {v : Value} {l : List KT} (h : KTs w B v l) (hb : Below w.heap.size w w') : KTs w' B v l :=
  World.ownsRow.kept h (row := none) ⟨hb.os, hb.tape, hb.output, hb.size, fun k hk _ => hb.block k hk⟩ (by cases h : v.ownBlock <;> simp)

theorem KTs.cells {w : World} {B n g cap : Nat} {l : List KT} (h : w.ownsRow B 52 2 (.slice (some ⟨g, 0, none⟩) n cap) n (ktAll l)) (k : Nat) (x : KT) (hx : l[k]? = some x) :
    w.cell? ⟨g, k * 2, none⟩ = some (.string x.key) ∧ w.cell? ⟨g, k * 2 + 1, none⟩ = some (.string x.text) := by
  have hk := (List.getElem?_eq_some_iff.1 hx).1
  have hl := h.1
  rw [ktAll_len] at hl
  have h0 := World.ownsRow.cellAt h (k * 2) (by omega)
  have h1 := World.ownsRow.cellAt h (k * 2 + 1) (by omega)
  rw [show (ktAll l)[k * 2]? = _ from ktAll_at l k 0 x hx (by omega)] at h0
  rw [ktAll_at l k 1 x hx (by omega)] at h1
  exact ⟨h0, h1⟩

/-- What stands in every world of a round's test. -/
def SHK (w : World) (B g cap n : Nat) (l : List KT) (w' : World) : Prop := l.length = n ∧ w'.ownsRow B 52 2 (.slice (some ⟨g, 0, none⟩) n cap) n (ktAll l) ∧ w.grownBy w' (some g)

theorem SHK.below {w w1 w2 : World} {B g cap n : Nat} {l : List KT} (hb : Below w1.heap.size w1 w2) (h : SHK w B g cap n l w1) : SHK w B g cap n l w2 :=
  ⟨h.1, World.ownsRow.kept h.2.1 (row := none) (below_grownBy hb none) (by cases hx : (Value.slice (some ⟨g, 0, none⟩) n cap).ownBlock <;> simp), h.2.2.trans (below_grownBy hb _)⟩

theorem ktAt_of {l : List KT} {k : Nat} (h : k < l.length) : l[k]? = some (ktAt l k) := by
  unfold ktAt
  rw [List.getElem?_eq_getElem h]; rfl

theorem SHK.cell {w w1 : World} {B g cap n : Nat} {l : List KT} (h : SHK w B g cap n l w1) (j : Nat) (hj : j < n) : w1.cell? ⟨g, j * 2, none⟩ = some (.string (ktAt l j).key) ∧ w1.cell? ⟨g, j * 2 + 1, none⟩ = some (.string (ktAt l j).text) :=
  KTs.cells h.2.1 j _ (ktAt_of (by rw [h.1]; exact hj))

theorem keepK {w w1 w2 : World} {B g cap n i j : Nat} {l : List KT} (hi : i < n) (hj : j < n) (hb : Below w1.heap.size w1 w2)
    (h : w1.cell? ⟨g, i * 2, none⟩ = some (.string (ktAt l i).key) ∧ w1.cell? ⟨g, i * 2 + 1, none⟩ = some (.string (ktAt l i).text) ∧ w1.cell? ⟨g, j * 2, none⟩ = some (.string (ktAt l j).key) ∧ w1.cell? ⟨g, j * 2 + 1, none⟩ = some (.string (ktAt l j).text) ∧ SHK w B g cap n l w1) :
    w2.cell? ⟨g, i * 2, none⟩ = some (.string (ktAt l i).key) ∧ w2.cell? ⟨g, i * 2 + 1, none⟩ = some (.string (ktAt l i).text) ∧ w2.cell? ⟨g, j * 2, none⟩ = some (.string (ktAt l j).key) ∧ w2.cell? ⟨g, j * 2 + 1, none⟩ = some (.string (ktAt l j).text) ∧ SHK w B g cap n l w2 := by
  have hs := h.2.2.2.2.below hb
  exact ⟨(hs.cell i hi).1, (hs.cell i hi).2, (hs.cell j hj).1, (hs.cell j hj).2, hs⟩

theorem shk_swap {w w1 : World} {B g cap n : Nat} {l : List KT} (h : SHK w B g cap n l w1) (i j : Nat) (hi : i < n) (hj : j < n) :
    SHK w B g cap n ((l.set i (ktAt l j)).set j (ktAt l i)) ((((w1.setCell ⟨g, i * 2, none⟩ (.string (ktAt l j).key)).setCell ⟨g, i * 2 + 1, none⟩ (.string (ktAt l j).text)).setCell ⟨g, j * 2, none⟩ (.string (ktAt l i).key)).setCell ⟨g, j * 2 + 1, none⟩ (.string (ktAt l i).text)) := by
  have hl := h.1
  have h1 := World.ownsRow.stored h.2.1 (i * 2) (.string (ktAt l j).key)
  have h2 := World.ownsRow.stored h1.1 (i * 2 + 1) (.string (ktAt l j).text)
  have h3 := World.ownsRow.stored h2.1 (j * 2) (.string (ktAt l i).key)
  have h4 := World.ownsRow.stored h3.1 (j * 2 + 1) (.string (ktAt l i).text)
  have hg := ((h1.2.trans h2.2).trans h3.2).trans h4.2
  refine ⟨by simp [hl], ?_, h.2.2.trans hg⟩
  rw [ktAll_set _ j _ (by simp; omega), ktAll_set _ i _ (by omega)]
  exact h4.1

set_option maxRecDepth 100000 in
set_option maxHeartbeats 1000000 in
theorem keyFn_any (k t : ByteArray) (w : World) : Calls Tryz.prog 28 #[.agg #[.string k, .string t]] w fun e w' => e = .returned (.string k) ∧ Below w.heap.size w w' := by
  go_enter Tryz.func28, Tryz.ntmps28
  go_wp2
  go_ret
  exact ⟨rfl, (Below.refl _ _).alloc (Nat.le_refl _) _⟩

def KOut (w : World) (B g cap n : Nat) (l : List KT) (i : Value) (wr : World) : Prop := ∃ k : Nat, k ≤ n ∧ i = .int .i64 k ∧ SHK w B g cap n (srtK l k) wr
def KIn (w : World) (B g cap n : Nat) (goal : List KT) (i : Value) (wr : World) : Prop := ∃ (j : Nat) (l : List KT), j < n ∧ i = .int .i64 j ∧ SHK w B g cap n l wr ∧ bubK l j = goal

set_option maxRecDepth 100000 in
set_option maxHeartbeats 4000000 in
theorem sortK_row (w : World) (B g cap n : Nat) (l : List KT) (hlen : l.length = n) (hown : w.ownsRow B 52 2 (.slice (some ⟨g, 0, none⟩) n cap) n (ktAll l)) (hn : n ≤ 1048576) :
    Calls Tryz.prog 27 #[.slice (some ⟨g, 0, none⟩) n cap, .func (.func 28) #[] #[]] w fun e w' => e = .returned (.tuple #[]) ∧ SHK w B g cap n (srtK l n) w' := by
  go_enter Tryz.func27, Tryz.ntmps27
  go_wp2
  go_loopw [8] (fun i wr => KOut w B g cap n l i wr) (fun i _ => n - (intOf i).toNat)
  case atStart => exact ⟨0, Nat.zero_le _, rfl, hlen, hown, grown_refl _ _⟩
  case round =>
    clear hown hlen
    obtain ⟨k, hk, rfl, hsh⟩ := hrel
    by_cases hlt : k < n
    · go_wp2_with fail
      go_loopw [5] (fun i wr => KIn w B g cap n (srtK l (k + 1)) i wr) (fun i _ => (intOf i).toNat)
      case atStart => exact ⟨k, srtK l k, hlt, rfl, hsh, rfl⟩
      case round =>
        clear hsh
        obtain ⟨j, l1, hj, rfl, hsh, hgoal⟩ := hrel
        have HG : Hid _ := hgoal
        clear hgoal
        cases j with
        | zero =>
          go_wp2
          go_quiet (fail)
          go_wp2
          have he : l1 = srtK l (k + 1) := HG.out
          subst he
          exact ⟨⟨k + 1, by omega, by go_num, hsh.below (below_drewN (Below.refl _ _) _)⟩, by simp [intOf]; omega⟩
        | succ p =>
          have hp1 : p < n := by omega
          have hw1 : IntKind.i64.wrap ((p : Int) + 1 - 1) = (p : Int) := by rw [IntKind.wrap_i64]; omega
          have hw2 : IntKind.i64.wrap (((p + 1 : Nat) : Int) - 1) = (p : Int) := by rw [IntKind.wrap_i64]; omega
          have hw3 : IntKind.i64.wrap (p : Int) = (p : Int) := by rw [IntKind.wrap_i64]; omega
          have hq1 : (p : Int) < (n : Int) := by omega
          have hq2 : (p : Int) + 1 < (n : Int) := by omega
          have hS : wr.cell? ⟨g, p * 2, none⟩ = some (.string (ktAt l1 p).key) ∧ wr.cell? ⟨g, p * 2 + 1, none⟩ = some (.string (ktAt l1 p).text) ∧ wr.cell? ⟨g, (p + 1) * 2, none⟩ = some (.string (ktAt l1 (p + 1)).key) ∧ wr.cell? ⟨g, (p + 1) * 2 + 1, none⟩ = some (.string (ktAt l1 (p + 1)).text) ∧ SHK w B g cap n l1 wr := ⟨(hsh.cell p hp1).1, (hsh.cell p hp1).2, (hsh.cell (p + 1) hj).1, (hsh.cell (p + 1) hj).2, hsh⟩
          have hS2 := keepK hp1 hj ((Below.refl wr.heap.size wr).drew) hS
          have KF := fun k t w => keyFn_any k t w
          go_wp2_with fail
          go_region_held (fun w' => w'.cell? ⟨g, p * 2, none⟩ = some (.string (ktAt l1 p).key) ∧ w'.cell? ⟨g, p * 2 + 1, none⟩ = some (.string (ktAt l1 p).text) ∧ w'.cell? ⟨g, (p + 1) * 2, none⟩ = some (.string (ktAt l1 (p + 1)).key) ∧ w'.cell? ⟨g, (p + 1) * 2 + 1, none⟩ = some (.string (ktAt l1 (p + 1)).text) ∧ SHK w B g cap n l1 w')
            (first | exact hS2 | exact keepK hp1 hj (by assumption) (by assumption) | exact keepK hp1 hj (by assumption) ⟨by assumption, by assumption, by assumption, by assumption, by assumption⟩)
            (first | (go_at_call 28; refine (KF _ _ _).mono ?_; rintro e w' ⟨rfl, hbw⟩))
          all_goals
            have hE : SHK w B g cap n l1 w' := (show w'.cell? ⟨g, p * 2, none⟩ = _ ∧ _ ∧ _ ∧ _ ∧ SHK w B g cap n l1 w' by assumption).2.2.2.2
            clear hS hS2 hsh KF
            cases hl : Op.bytesLess (ktAt l1 p).key.toList (ktAt l1 (p + 1)).key.toList
            · cases hq : ((ktAt l1 p).key.toList == (ktAt l1 (p + 1)).key.toList)
              · have hgt : gtS (ktAt l1 p).key (ktAt l1 (p + 1)).key = true := by unfold gtS ltS eqS; rw [hl, hq]; rfl
                have HG2 : Hid (bubK ((l1.set p (ktAt l1 (p + 1))).set (p + 1) (ktAt l1 p)) p = srtK l (k + 1)) := (bubK_go hgt).symm.trans HG.out
                have HW := shk_swap hE p (p + 1) hp1 hj
                obtain ⟨e1, e2⟩ := hE.cell p hp1
                obtain ⟨e3, e4⟩ := hE.cell (p + 1) hj
                have f1 := World.ownsRow.frozenAt hE.2.1 (p * 2)
                have f2 := World.ownsRow.frozenAt hE.2.1 (p * 2 + 1)
                have f3 := World.ownsRow.frozenAt hE.2.1 ((p + 1) * 2)
                have f4 := World.ownsRow.frozenAt hE.2.1 ((p + 1) * 2 + 1)
                clear HG hE hgt
                go_wp2_with fail
                go_region
                all_goals go_wp2
                all_goals exact ⟨⟨p, _, by omega, rfl, HW.below ((Below.refl _ _).drew), HG2.out⟩, by simp [intOf]⟩
              · have hgt : gtS (ktAt l1 p).key (ktAt l1 (p + 1)).key = false := by unfold gtS ltS eqS; rw [hl, hq]; rfl
                have he : l1 = srtK l (k + 1) := (bubK_stop hgt).symm.trans HG.out
                clear HG hgt
                go_wp2
                subst he
                exact ⟨⟨k + 1, by omega, by go_num, hE⟩, by simp [intOf]; omega⟩
            · have hgt : gtS (ktAt l1 p).key (ktAt l1 (p + 1)).key = false := by unfold gtS ltS; rw [hl]; rfl

              have he : l1 = srtK l (k + 1) := (bubK_stop hgt).symm.trans HG.out
              clear HG hgt
              simp only [Bool.not_true, Bool.false_and]
              go_wp2
              subst he
              exact ⟨⟨k + 1, by omega, by go_num, hE⟩, by simp [intOf]; omega⟩
    · have hkm : k = n := by omega
      subst hkm
      go_wp2
      go_end0
      exact ⟨rfl, hsh⟩
end Go.Proofs.YtanfebccenfffagGreatDoor
