/- What the specification's ReadRules tells of a text, without memory. -/
import Derived.Test.YtakfnmhokijcoaaGreatDoorSRule3
import Derived.Test.YtakfnmhokijcoaaGreatDoorSBehind3
import Derived.Test.YtakfnmhokijcoaaGreatDoorSWords
namespace Go.Proofs.YtakfnmhokijcoaaGreatDoor

structure RS where
  es : List Ent
  sh : Bool
  lv : Int
  last : El
  reset : Bool

def wShift : List UInt8 := [91, 115, 104, 105, 102, 116, 101, 100, 93]
def wLevels : List UInt8 := [91, 108, 101, 118, 101, 108, 115]

/-- What a word asks for: 0 a reset, 1 to 3 a putting by that weight. -/
def levOf (x : ByteArray) : Option Nat :=
  if x.toList == [38] then some 0 else if x.toList == [60] then some 1 else if x.toList == [60, 60] then some 2 else if x.toList == [60, 60, 60] then some 3 else none

/-- The number of levels that a second word tells. -/
def levN (y : ByteArray) : Option Int :=
  if y.size = 2 ∧ 49 ≤ Dec.bt y 0 ∧ Dec.bt y 0 ≤ 52 ∧ Dec.bt y 1 = 93 then some ((Dec.bt y 0 : Int) - 48) else none

def behindE (es : List Ent) (e : El) : Nat → El
  | 1 => ⟨step1 es (65535 - e.first).toNat (e.first + 1), 32, 2, false⟩
  | 2 => behind2 es e
  | _ => behind3 es e

def putIn (st : RS) (lev : Nat) (l : List Int) : Except Int RS :=
  if runesOk l = false then .error 2
  else if lev = 0 then
    match elemE st.es l with
    | none => .error 3
    | some e => if e.varies = true then .error 3 else .ok { st with last := e, reset := true }
  else if st.reset = false then .error 3
  else if 0 ≤ atE st.es l then .error 4
  else if rulesOk (st.es ++ [⟨l, behindE st.es st.last lev⟩]) st.lv = true then .ok { st with es := st.es ++ [⟨l, behindE st.es st.last lev⟩], last := behindE st.es st.last lev }
  else .error 5

def readW : List ByteArray → RS → Except Int RS
  | [], st => .ok st
  | x :: ws, st =>
    if x.toList == wShift then readW ws { st with sh := true }
    else if x.toList == wLevels then
      match ws with
      | [] => .error 2
      | y :: ws' => match levN y with
        | none => .error 2
        | some n => readW ws' { st with lv := n }
    else match levOf x with
      | none => .error 2
      | some lev => match ws with
        | [] => .error 2
        | y :: ws' => if 200 < y.size then .error 2 else match putIn st lev (nD (Dec.decT y.size y).1) with
          | .error c => .error c
          | .ok st' => readW ws' st'

def rs0 : RS := ⟨[], false, 3, ⟨0, 0, 0, false⟩, false⟩

/-- What ReadRules answers. -/
structure RA where
  es : List Ent
  sh : Bool
  lv : Int
  code : Int

def raOf : Except Int RS → RA
  | .ok st => ⟨st.es, st.sh, st.lv, 0⟩
  | .error c => ⟨[], false, 0, c⟩

def readA (s : ByteArray) : RA := if 300 < s.size then ⟨[], false, 0, 1⟩ else raOf (readW (words s) rs0)

/-- What holds of the state at every word. -/
structure RInv (st : RS) : Prop where
  good : rulesOk st.es st.lv = true
  f0 : 0 ≤ st.last.first
  f1 : st.last.first ≤ 65535
  s0 : 0 ≤ st.last.second
  s1 : st.last.second ≤ 999
  t0 : 0 ≤ st.last.third
  t1 : st.last.third ≤ 99

theorem rulesOk_whole {es : List Ent} {lv : Int} (h : rulesOk es lv = true) : es.length ≤ 40 ∧ (1 ≤ lv ∧ lv ≤ 4) ∧ ∀ e ∈ es, runesOk e.runes = true ∧ (1 ≤ e.el.first ∧ e.el.first ≤ 65535) ∧ (32 ≤ e.el.second ∧ e.el.second ≤ 999) ∧ (2 ≤ e.el.third ∧ e.el.third ≤ 99) ∧ e.el.varies = false := by
  have c := of_decide_eq_true h
  refine ⟨c.1, c.2.1, fun e he => ?_⟩
  obtain ⟨i, hi⟩ := List.mem_iff_getElem?.1 he
  have := (entsOk_iff es).1 c.2.2 i e hi
  unfold entOk at this
  simp only [Bool.and_eq_true, decide_eq_true_eq, Bool.not_eq_true'] at this
  exact ⟨this.1, this.2.2.1, this.2.2.2.1, this.2.2.2.2.1, this.2.2.2.2.2⟩

theorem rulesOk_lv {es : List Ent} {lv lv' : Int} (h : rulesOk es lv = true) (h' : 1 ≤ lv' ∧ lv' ≤ 4) : rulesOk es lv' = true := by
  have c := of_decide_eq_true h
  exact decide_eq_true ⟨c.1, h', c.2.2⟩

theorem runesOk_len {l : List Int} (h : runesOk l = true) : l.length ≤ 4 := by
  unfold runesOk at h
  rw [Bool.and_eq_true] at h
  exact (of_decide_eq_true h.1).2

theorem rinv0 : RInv rs0 := ⟨by decide, by decide, by decide, by decide, by decide, by decide, by decide⟩

theorem placeR_lt {l : List Int} {r : Int} {i : Nat} (h : placeIn l r = some i) : i < l.length := by
  unfold placeIn at h
  exact (List.findIdx?_eq_some_iff_getElem.1 h).1

theorem base_one {r : Int} {e : El} (h : base r = [e]) : 0 ≤ e.first ∧ e.first ≤ 65535 ∧ 0 ≤ e.second ∧ e.second ≤ 999 ∧ 0 ≤ e.third ∧ e.third ≤ 99 := by
  unfold base at h
  split at h
  · rename_i i hp
    have hl := placeR_lt hp
    have h9 : vsl.length = 9 := rfl
    cases h
    simp only
    omega
  · split at h
    · rename_i i hp
      have hl := placeR_lt hp
      have h15 : mkl.length = 15 := rfl
      cases h
      simp only
      omega
    · unfold baseRest at h
      split at h
      · cases h
      · split at h
        · cases h; simp only; omega
        · split at h
          · cases h; simp only; omega
          · split at h
            · cases h; simp only; omega
            · cases h

theorem elemE_bound {st : RS} {l : List Int} {e : El} (hi : RInv st) (h : elemE st.es l = some e) : 0 ≤ e.first ∧ e.first ≤ 65535 ∧ 0 ≤ e.second ∧ e.second ≤ 999 ∧ 0 ≤ e.third ∧ e.third ≤ 99 := by
  unfold elemE at h
  split at h
  · obtain ⟨x, hx, rfl⟩ := Option.map_eq_some_iff.1 h
    have := (rulesOk_whole hi.good).2.2 x (List.mem_of_getElem? hx)
    omega
  · split at h
    · rename_i r _
      unfold one3 at h
      split at h
      · rename_i x hb
        split at h
        · cases h
        · cases h; exact base_one hb
      · cases h
    · cases h

theorem putIn_inv {st st' : RS} {lev : Nat} {l : List Int} (hi : RInv st) (h : putIn st lev l = .ok st') : RInv st' := by
  unfold putIn at h
  split at h
  · cases h
  · split at h
    · split at h
      · cases h
      · rename_i e he
        split at h
        · cases h
        · cases h
          have := elemE_bound hi he
          exact ⟨hi.good, this.1, this.2.1, this.2.2.1, this.2.2.2.1, this.2.2.2.2.1, this.2.2.2.2.2⟩
    · split at h
      · cases h
      · split at h
        · cases h
        · split at h
          · rename_i hr
            cases h
            have := (rulesOk_whole hr).2.2 ⟨l, behindE st.es st.last lev⟩ (by simp)
            exact ⟨hr, by simp only at this ⊢; omega, by simp only at this ⊢; omega, by simp only at this ⊢; omega, by simp only at this ⊢; omega, by simp only at this ⊢; omega, by simp only at this ⊢; omega⟩
          · cases h
end Go.Proofs.YtakfnmhokijcoaaGreatDoor
