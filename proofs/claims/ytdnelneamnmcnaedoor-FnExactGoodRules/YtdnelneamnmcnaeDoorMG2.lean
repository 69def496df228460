/- Texts of mine laid together: Rd, PRule, IEntry, IGood3. -/
import Derived.Test.YtdnelneamnmcnaeDoorSRule3
import Derived.Test.YtdnelneamnmcnaeDoorSBehind3
import Derived.Test.YtdnelneamnmcnaeDoorMG1
import Derived.Test.YtdnelneamnmcnaeDoorPBase
import Derived.Test.YtdnelneamnmcnaeDoorIRule1
import Derived.Test.YtdnelneamnmcnaeDoorIBase
import Derived.Deep.RegionHeld3
namespace Go.Proofs.YtdnelneamnmcnaeDoor

structure RS where
  es : List Ent
  sh : Bool
  lv : Int
  last : El
  reset : Bool

def wShift : List UInt8 := [91, 115, 104, 105, 102, 116, 101, 100, 93]
def wLevels : List UInt8 := [91, 108, 101, 118, 101, 108, 115]

/-- What a word asks for: 0 a reset, 1 to 3 a putting by that weight. -/
def levOf (x : ByteArray) : Option Nat :=
  if x.toList == [38] then some 0 else if x.toList == [60] then some 1 else if x.toList == [60, 60] then some 2 else if x.toList == [60, 60, 60] then some 3 else none

/-- The number of levels that a second word tells. -/
def levN (y : ByteArray) : Option Int :=
  if y.size = 2 ∧ 49 ≤ Dec.bt y 0 ∧ Dec.bt y 0 ≤ 52 ∧ Dec.bt y 1 = 93 then some ((Dec.bt y 0 : Int) - 48) else none

def behindE (es : List Ent) (e : El) : Nat → El
  | 1 => ⟨step1 es (65535 - e.first).toNat (e.first + 1), 32, 2, false⟩
  | 2 => behind2 es e
  | _ => behind3 es e

def putIn (st : RS) (lev : Nat) (l : List Int) : Except Int RS :=
  if runesOk l = false then .error 2
  else if lev = 0 then
    match elemE st.es l with
    | none => .error 3
    | some e => if e.varies = true then .error 3 else .ok { st with last := e, reset := true }
  else if st.reset = false then .error 3
  else if 0 ≤ atE st.es l then .error 4
  else if rulesOk (st.es ++ [⟨l, behindE st.es st.last lev⟩]) st.lv = true then .ok { st with es := st.es ++ [⟨l, behindE st.es st.last lev⟩], last := behindE st.es st.last lev }
  else .error 5

def readW : List ByteArray → RS → Except Int RS
  | [], st => .ok st
  | x :: ws, st =>
    if x.toList == wShift then readW ws { st with sh := true }
    else if x.toList == wLevels then
      match ws with
      | [] => .error 2
      | y :: ws' => match levN y with
        | none => .error 2
        | some n => readW ws' { st with lv := n }
    else match levOf x with
      | none => .error 2
      | some lev => match ws with
        | [] => .error 2
        | y :: ws' => if 200 < y.size then .error 2 else match putIn st lev (nD (Dec.decT y.size y).1) with
          | .error c => .error c
          | .ok st' => readW ws' st'

def rs0 : RS := ⟨[], false, 3, ⟨0, 0, 0, false⟩, false⟩

/-- What ReadRules answers. -/
structure RA where
  es : List Ent
  sh : Bool
  lv : Int
  code : Int

def raOf : Except Int RS → RA
  | .ok st => ⟨st.es, st.sh, st.lv, 0⟩
  | .error c => ⟨[], false, 0, c⟩

def readA (s : ByteArray) : RA := if 300 < s.size then ⟨[], false, 0, 1⟩ else raOf (readW (words s) rs0)

/-- What holds of the state at every word. -/
structure RInv (st : RS) : Prop where
  good : rulesOk st.es st.lv = true
  f0 : 0 ≤ st.last.first
  f1 : st.last.first ≤ 65535
  s0 : 0 ≤ st.last.second
  s1 : st.last.second ≤ 999
  t0 : 0 ≤ st.last.third
  t1 : st.last.third ≤ 99

theorem rulesOk_parts {es : List Ent} {lv : Int} (h : rulesOk es lv = true) : es.length ≤ 40 ∧ (1 ≤ lv ∧ lv ≤ 4) ∧ ∀ e ∈ es, runesOk e.runes = true ∧ (1 ≤ e.el.first ∧ e.el.first ≤ 65535) ∧ (32 ≤ e.el.second ∧ e.el.second ≤ 999) ∧ (2 ≤ e.el.third ∧ e.el.third ≤ 99) ∧ e.el.varies = false := by
  have c := of_decide_eq_true h
  refine ⟨c.1, c.2.1, fun e he => ?_⟩
  obtain ⟨i, hi⟩ := List.mem_iff_getElem?.1 he
  have := (entsOk_iff es).1 c.2.2 i e hi
  unfold entOk at this
  simp only [Bool.and_eq_true, decide_eq_true_eq, Bool.not_eq_true'] at this
  exact ⟨this.1, this.2.2.1, this.2.2.2.1, this.2.2.2.2.1, this.2.2.2.2.2⟩

theorem rulesOk_lv {es : List Ent} {lv lv' : Int} (h : rulesOk es lv = true) (h' : 1 ≤ lv' ∧ lv' ≤ 4) : rulesOk es lv' = true := by
  have c := of_decide_eq_true h
  exact decide_eq_true ⟨c.1, h', c.2.2⟩

theorem runesOk_len {l : List Int} (h : runesOk l = true) : l.length ≤ 4 := by
  unfold runesOk at h
  rw [Bool.and_eq_true] at h
  exact (of_decide_eq_true h.1).2

theorem rinv0 : RInv rs0 := ⟨by decide, by decide, by decide, by decide, by decide, by decide, by decide⟩

theorem place_lt {l : List Int} {r : Int} {i : Nat} (h : placeIn l r = some i) : i < l.length := by
  unfold placeIn at h
  exact (List.findIdx?_eq_some_iff_getElem.1 h).1

theorem base_one {r : Int} {e : El} (h : base r = [e]) : 0 ≤ e.first ∧ e.first ≤ 65535 ∧ 0 ≤ e.second ∧ e.second ≤ 999 ∧ 0 ≤ e.third ∧ e.third ≤ 99 := by
  unfold base at h
  split at h
  · rename_i i hp
    have hl := place_lt hp
    have h9 : vsl.length = 9 := rfl
    cases h
    simp only
    omega
  · split at h
    · rename_i i hp
      have hl := place_lt hp
      have h15 : mkl.length = 15 := rfl
      cases h
      simp only
      omega
    · unfold baseRest at h
      split at h
      · cases h
      · split at h
        · cases h; simp only; omega
        · split at h
          · cases h; simp only; omega
          · split at h
            · cases h; simp only; omega
            · cases h

theorem elemE_bound {st : RS} {l : List Int} {e : El} (hi : RInv st) (h : elemE st.es l = some e) : 0 ≤ e.first ∧ e.first ≤ 65535 ∧ 0 ≤ e.second ∧ e.second ≤ 999 ∧ 0 ≤ e.third ∧ e.third ≤ 99 := by
  unfold elemE at h
  split at h
  · obtain ⟨x, hx, rfl⟩ := Option.map_eq_some_iff.1 h
    have := (rulesOk_parts hi.good).2.2 x (List.mem_of_getElem? hx)
    omega
  · split at h
    · rename_i r _
      unfold one3 at h
      split at h
      · rename_i x hb
        split at h
        · cases h
        · cases h; exact base_one hb
      · cases h
    · cases h

theorem putIn_inv {st st' : RS} {lev : Nat} {l : List Int} (hi : RInv st) (h : putIn st lev l = .ok st') : RInv st' := by
  unfold putIn at h
  split at h
  · cases h
  · split at h
    · split at h
      · cases h
      · rename_i e he
        split at h
        · cases h
        · cases h
          have := elemE_bound hi he
          exact ⟨hi.good, this.1, this.2.1, this.2.2.1, this.2.2.2.1, this.2.2.2.2.1, this.2.2.2.2.2⟩
    · split at h
      · cases h
      · split at h
        · cases h
        · split at h
          · rename_i hr
            cases h
            have := (rulesOk_parts hr).2.2 ⟨l, behindE st.es st.last lev⟩ (by simp)
            exact ⟨hr, by simp only at this ⊢; omega, by simp only at this ⊢; omega, by simp only at this ⊢; omega, by simp only at this ⊢; omega, by simp only at this ⊢; omega, by simp only at this ⊢; omega⟩
          · cases h
end Go.Proofs.YtdnelneamnmcnaeDoor

namespace Go.Proofs.YtdnelneamnmcnaeDoor

/-- The first weight of a rune that is one whole elem with a first weight. -/
def firstOf (r : Int) : Int := match one3 (base r) with
  | some e => e.first
  | none => 0

theorem firsts_taken : ((List.range 127).all fun k => match one3 (base (k : Int)) with | some e => takenB e.first | none => true) = true := by kernel_rfl

theorem taken_of {k : Nat} {e : El} (hk : k < 127) (h : one3 (base (k : Int)) = some e) : takenB e.first = true := by
  have := List.all_eq_true.1 firsts_taken k (List.mem_range.2 hk)
  rw [h] at this
  exact this

theorem one3_first {e : El} (h : e.first ≠ 0) : one3 [e] = some e := if_neg h

theorem taken_has {n : Int} (h : takenB n = true) : ∃ (k : Nat) (e : El), k < 127 ∧ one3 (base (k : Int)) = some e ∧ e.first = n := by
  rcases of_decide_eq_true h with ⟨h1, h2, h3⟩ | ⟨h1, h2, h3⟩ | h
  · obtain ⟨k, hk⟩ : ∃ k : Nat, (k : Int) = 48 + (n - 2000) / 100 := ⟨(48 + (n - 2000) / 100).toNat, by omega⟩
    refine ⟨k, ⟨2000 + 100 * ((k : Int) - 48), 32, 2, false⟩, by omega, ?_, by simp only; omega⟩
    rw [base_digit (by omega)]
    exact one3_first (by simp only; omega)
  · obtain ⟨k, hk⟩ : ∃ k : Nat, (k : Int) = 97 + (n - 4000) / 200 := ⟨(97 + (n - 4000) / 200).toNat, by omega⟩
    refine ⟨k, ⟨4000 + 200 * ((k : Int) - 97), 32, 2, false⟩, by omega, ?_, by simp only; omega⟩
    rw [base_small (by omega)]
    exact one3_first (by simp only; omega)
  · have h9 : n = 1 ∨ n = 2 ∨ n = 3 ∨ n = 4 ∨ n = 5 ∨ n = 6 ∨ n = 7 ∨ n = 8 ∨ n = 9 := by omega
    rcases h9 with rfl | rfl | rfl | rfl | rfl | rfl | rfl | rfl | rfl
    · exact ⟨32, ⟨1, 32, 2, true⟩, by omega, rfl, rfl⟩
    · exact ⟨95, ⟨2, 32, 2, true⟩, by omega, rfl, rfl⟩
    · exact ⟨45, ⟨3, 32, 2, true⟩, by omega, rfl, rfl⟩
    · exact ⟨44, ⟨4, 32, 2, true⟩, by omega, rfl, rfl⟩
    · exact ⟨59, ⟨5, 32, 2, true⟩, by omega, rfl, rfl⟩
    · exact ⟨58, ⟨6, 32, 2, true⟩, by omega, rfl, rfl⟩
    · exact ⟨33, ⟨7, 32, 2, true⟩, by omega, rfl, rfl⟩
    · exact ⟨63, ⟨8, 32, 2, true⟩, by omega, rfl, rfl⟩
    · exact ⟨46, ⟨9, 32, 2, true⟩, by omega, rfl, rfl⟩

def NoBase (n : Int) (k : Nat) : Prop := ∀ j e, j < k → one3 (base (j : Int)) = some e → e.first ≠ n

theorem NoBase.succ {n : Int} {k : Nat} (h : NoBase n k) (hn : ∀ e, one3 (base (k : Int)) = some e → e.first ≠ n) : NoBase n (k + 1) := by
  intro j e hj he
  by_cases c : j = k
  · subst c; exact hn e he
  · exact h j e (by omega) he

theorem NoBase.all {n : Int} {k : Nat} (h : NoBase n k) (hk : 127 ≤ k) : takenB n = false := by
  cases c : takenB n
  · rfl
  · obtain ⟨j, e, hj, he, hn⟩ := taken_has c
    exact absurd hn (h j e (by omega) he)

/-- The elem of the entry with these runes. -/
def entOf (es : List Ent) (l : List Int) : Option El := if 0 ≤ atE es l then (es[(atE es l).toNat]?).map (·.el) else none

theorem entOf_hit {es : List Ent} {l : List Int} {e : Ent} {k : Nat} (h : NoEnt es l k) (hx : es[k]? = some e) (hr : e.runes = l) : entOf es l = some e.el := by
  unfold entOf
  rw [atE_hit h hx hr, if_pos (by omega), Int.toNat_natCast, hx]; rfl

theorem entOf_none {es : List Ent} {l : List Int} {k : Nat} (h : NoEnt es l k) (hk : es.length ≤ k) : entOf es l = none := by
  unfold entOf
  rw [atE_none h hk, if_neg (by omega)]

theorem entOf_some {es : List Ent} {l : List Int} : (entOf es l).isSome = decide (0 ≤ atE es l) := by
  rcases atE_cases es l with h | ⟨i, e, he, h⟩
  · unfold entOf; rw [h]; rfl
  · unfold entOf; rw [h, if_pos (by omega), Int.toNat_natCast, he]; simp

theorem elemE_of {es : List Ent} {l : List Int} {e : El} (h : entOf es l = some e) : elemE es l = some e := by
  unfold entOf at h
  unfold elemE
  split at h
  · rename_i c; rw [if_pos c]; exact h
  · cases h

theorem atE_of_none {es : List Ent} {l : List Int} (h : entOf es l = none) : atE es l = -1 := by
  rcases atE_cases es l with c | ⟨i, e, he, c⟩
  · exact c
  · unfold entOf at h
    rw [c, if_pos (by omega), Int.toNat_natCast, he] at h
    cases h

/-- Ahead of its own place no entry has these runes: that is what makes a good one's place its own. -/
theorem noEnt_take {es : List Ent} {l : List Int} {k : Nat} : entOf (es.take k) l = none → NoEnt es l k := by
  intro h j e hj he hr
  have h1 := atE_of_none h
  unfold atE at h1
  have : (es.take k).findIdx? (fun e => decide (e.runes = l)) = none := by
    cases c : (es.take k).findIdx? (fun e => decide (e.runes = l)) with
    | none => rfl
    | some i => rw [c] at h1; simp only at h1; omega
  rw [List.findIdx?_eq_none_iff] at this
  have h2 := this e (List.mem_of_getElem? (i := j) (by rw [List.getElem?_take_of_lt hj]; exact he))
  simp [hr] at h2

theorem atE_here {es : List Ent} {e : Ent} {k : Nat} (he : es[k]? = some e) : (entOf (es.take k) e.runes = none) ↔ atE es e.runes = (k : Int) := by
  constructor
  · intro h
    exact atE_hit (noEnt_take h) he rfl
  · intro h
    cases c : entOf (es.take k) e.runes with
    | none => rfl
    | some x =>
      exfalso
      rcases atE_cases (es.take k) e.runes with d | ⟨i, y, hy, d⟩
      · unfold entOf at c; rw [d, if_neg (by omega)] at c; cases c
      · have hik : i < k := by
          have := (List.getElem?_eq_some_iff.1 hy).1
          rw [List.length_take] at this; omega
        rw [List.getElem?_take_of_lt hik] at hy
        unfold atE at d h
        cases f : (es.take k).findIdx? (fun x => decide (x.runes = e.runes)) with
        | none => rw [f] at d; simp only at d; omega
        | some m =>
          rw [f] at d
          have hm : m = i := by simp only at d; omega
          subst hm
          obtain ⟨h1, h2, h3⟩ := List.findIdx?_eq_some_iff_getElem.1 f
          have h4 : es.findIdx? (fun x => decide (x.runes = e.runes)) = some m := by
            have hm2 : m < es.length := by rw [List.length_take] at h1; omega
            rw [List.findIdx?_eq_some_iff_getElem]
            refine ⟨hm2, ?_, fun j hj => ?_⟩
            · simpa using h2
            · have := h3 j hj
              simpa using this
          rw [h4] at h
          simp only at h
          omega
end Go.Proofs.YtdnelneamnmcnaeDoor

namespace Go.Proofs.YtdnelneamnmcnaeDoor
open Go.RowKit

theorem entAll_take (xs : List Value) (es : List Ent) (k : Nat) : entAll (xs.take k) (es.take k) = (entAll xs es).take (k * 5) := by
  induction k generalizing xs es with
  | zero => simp [entAll]
  | succ k ih =>
    match xs, es with
    | [], _ => simp [entAll]
    | x :: xs, [] => simp [entAll]
    | x :: xs, e :: es =>
      show entC x e.el ++ entAll (xs.take k) (es.take k) = (entC x e.el ++ entAll xs es).take ((k + 1) * 5)
      have e1 : ((entC x e.el).take ((k + 1) * 5)) = entC x e.el := List.take_of_length_le (by show 5 ≤ _; omega)
      have e2 : (k + 1) * 5 - (entC x e.el).length = k * 5 := by show (k + 1) * 5 - 5 = _; omega
      rw [ih xs es, List.take_append, e1, e2]

theorem below_alloc_any (w : World) (o : Obj) : Below w.heap.size w (w.alloc o) := (Below.refl _ _).alloc (Nat.le_refl _) _

def ERel (w : World) (es : List Ent) (l : List Int) (i : Value) (wr : World) : Prop := ∃ k : Nat, k ≤ es.length ∧ i = .int .i64 k ∧ NoEnt es l k ∧ Zel wr w.heap.size ∧ Below w.heap.size w wr

set_option maxRecDepth 100000 in
set_option maxHeartbeats 4000000 in
theorem entry_row (w : World) (B B' g cap : Nat) (es : List Ent) (vl : Value) (l : List Int) (hE : Ents w B (.slice (some ⟨g, 0, none⟩) es.length cap) es) (hL : Ints w B' vl l) (hn : es.length ≤ 1048576) (hl : l.length ≤ 1048576) (hr : ∀ e ∈ es, e.runes.length ≤ 1048576) :
    Calls Tryd.prog 45 #[.slice (some ⟨g, 0, none⟩) es.length cap, vl] w fun e w' => e = .returned (elRes (entOf es l)) ∧ Below w.heap.size w w' := by
  go_enter Tryd.func45, Tryd.ntmps45
  go_wp2
  go_loopw [10] (fun i wr => ERel w es l i wr) (fun i _ => es.length - (intOf i).toNat)
  case atStart => exact ⟨0, Nat.zero_le _, rfl, fun j e hj => by omega, heap_alloc_new _ _, (Below.refl _ _).alloc (Nat.le_refl _) _⟩
  case round =>
    obtain ⟨k, hk, rfl, HN0, hz, hb⟩ := hrel
    have HN : Hid (NoEnt es l k) := HN0
    clear HN0
    by_cases hlt : k < es.length
    · obtain ⟨e, he⟩ : ∃ e, es[k]? = some e := ⟨_, List.getElem?_eq_getElem hlt⟩
      obtain ⟨x, hI, a0, a1, a2, a3, a4⟩ := (hE.below hb).cells k e he
      obtain ⟨xa, xn, xc, rfl⟩ : ∃ xa xn xc, x = .slice xa xn xc := by
        rcases hI.form with ⟨rfl, _⟩ | ⟨_, _, rfl, _, _⟩
        · exact ⟨_, _, _, rfl⟩
        · exact ⟨_, _, _, rfl⟩
      have hk8 : (k : Int) < (es.length : Int) := by omega
      have hrl := hr e (List.mem_of_getElem? he)
      have hbr := (Below.refl wr.heap.size wr).alloc (Nat.le_refl _) (.cells #[.slice xa xn xc, .int .i64 e.el.first, .int .i64 e.el.second, .int .i64 e.el.third, .bool e.el.varies] 63)
      have hba := hb.trans (hbr.mono hb.size)
      have SM := equal_any hrl hl (hI.below hbr) ((hL.below hb).below hbr)
      have HZ : Hid (Zel _ _) := hz.below hbr
      have hlt3 := hz.facts.1
      have HE : Hid _ := he
      clear he hI hE hL hr hz hbr
      go_wp2_with fail
      refine SM.mono ?_
      rintro e' w2 ⟨rfl, n2, rfl⟩
      clear SM a0 a1 a2 a3 a4
      by_cases c : e.runes = l
      · have HA : Hid (entOf es l = some e.el) := entOf_hit HN.out HE.out c
        have c' : decide (e.runes = l) = true := decide_eq_true c
        obtain ⟨hlt2, ⟨q0, q1, q2, q3⟩, f0⟩ := HZ.out.facts
        have hsz := hb.size
        clear HN HE c HZ
        go_wp2
        refine bodyPost_ret (v := .tuple #[.agg #[.int .i64 e.el.first, .int .i64 e.el.second, .int .i64 e.el.third, .bool e.el.varies], .bool true]) ?_ rfl ⟨ret_e HA.out, below_res1 (below_drewN hba n2) (Nat.le_refl _) _ _ _ _⟩
        rw [results_cell_tmp rfl]
        go_simp
      · have HN2 : Hid (NoEnt es l (k + 1)) := HN.out.succ HE.out c
        have c' : decide (e.runes = l) = false := decide_eq_false c
        clear HN HE c
        go_wp2
        exact ⟨⟨k + 1, by omega, by go_num, HN2.out, HZ.out, below_drewN hba n2⟩, by simp [intOf]; omega⟩
    · have HA : Hid (entOf es l = none) := entOf_none HN.out (by omega)
      obtain ⟨hlt2, ⟨q0, q1, q2, q3⟩, f0⟩ := hz.facts
      clear HN hE hr hz
      go_wp2
      refine bodyPost_ret (v := .tuple #[.agg #[.int .i64 0, .int .i64 0, .int .i64 0, .bool false], .bool false]) ?_ rfl ⟨ret_e0 HA.out, below_res1 hb (Nat.le_refl _) _ _ _ _⟩
      rw [results_cell_tmp rfl]
      go_simp

set_option maxRecDepth 100000 in
set_option maxHeartbeats 4000000 in
theorem entry_nil (w : World) (vl : Value) (l : List Int) :
    Calls Tryd.prog 45 #[.slice none 0 0, vl] w fun e w' => e = .returned (elRes (entOf [] l)) ∧ Below w.heap.size w w' := by
  have HA : Hid (entOf [] l = none) := rfl
  have hz : Zel (w.alloc (.cells #[.int .i64 0, .int .i64 0, .int .i64 0, .bool false] 59)) w.heap.size := heap_alloc_new _ _
  obtain ⟨hlt2, ⟨q0, q1, q2, q3⟩, f0⟩ := hz.facts
  clear hz
  go_enter Tryd.func45, Tryd.ntmps45
  go_wp2
  go_loop [10] (fun i => i = .int .i64 0) (fun _ => 0)
  case atStart => rfl
  case round =>
    subst hrel
    go_wp2
    refine bodyPost_ret (v := .tuple #[.agg #[.int .i64 0, .int .i64 0, .int .i64 0, .bool false], .bool false]) ?_ rfl ⟨ret_e0 HA.out, ?_⟩
    · rw [results_cell_tmp rfl]
      go_simp
    · exact below_alloc_any w _

theorem entry_any {w : World} {B B' : Nat} {v vl : Value} {es : List Ent} {l : List Int} (hE : Ents w B v es) (hL : Ints w B' vl l) (hn : es.length ≤ 1048576) (hl : l.length ≤ 1048576) (hr : ∀ e ∈ es, e.runes.length ≤ 1048576) :
    Calls Tryd.prog 45 #[v, vl] w fun e w' => e = .returned (elRes (entOf es l)) ∧ Below w.heap.size w w' := by
  rcases hE.form with ⟨rfl, rfl⟩ | ⟨g, cap, rfl, _, _, _, _⟩
  · exact entry_nil w vl l
  · exact entry_row w B B' g cap es vl l hE hL hn hl hr

/-- The first entries of a row are a row. -/
theorem Ents.take {w : World} {B g cap : Nat} {es : List Ent} (h : Ents w B (.slice (some ⟨g, 0, none⟩) es.length cap) es) (k : Nat) (hk : k ≤ es.length) : Ents w B (.slice (some ⟨g, 0, none⟩) k cap) (es.take k) := by
  obtain ⟨xs, hl, ⟨h1, h2⟩, h3⟩ := h
  have hlk : (es.take k).length = k := by rw [List.length_take]; omega
  refine ⟨xs.take k, by rw [List.length_take, List.length_take, hl], ?_, fun i e he => ?_⟩
  · have hcut : entAll (xs.take k) (es.take k) = (entAll xs es).take (k * 5) := entAll_take xs es k
    rcases h2 with ⟨a, b⟩ | ⟨g', cap', cur, a, b, c, d, e, f, f2⟩
    · cases a
    · refine ⟨by rw [entAll_len _ _ (by rw [List.length_take, List.length_take, hl])], ?_⟩
      rw [hlk]
      injection a with a1 a2 a3
      injection a1 with a4
      injection a4 with a5
      subst a5
      subst a3
      refine .inr ⟨g, cap, cur, rfl, b, c, by omega, e, f, ?_⟩
      rw [hcut, ← f2, List.take_take, Nat.min_eq_left (Nat.mul_le_mul_right 5 hk)]
  · have hik : i < k := by
      have := (List.getElem?_eq_some_iff.1 he).1
      omega
    rw [List.getElem?_take_of_lt hik] at he
    obtain ⟨x, hx, hI⟩ := h3 i e he
    exact ⟨x, by rw [List.getElem?_take_of_lt hik]; exact hx, hI⟩
end Go.Proofs.YtdnelneamnmcnaeDoor

namespace Go.Proofs.YtdnelneamnmcnaeDoor
open Go.RowKit

/-- What stands in the region that looks for an entry with the same runes ahead. -/
def Gin (w0 : World) (b1 b4 : Nat) (v x : Value) (u : World) : Prop := u.cell? ⟨b1, 0, none⟩ = some v ∧ u.cell? ⟨b4, 0, none⟩ = some x ∧ Below w0.heap.size w0 u
theorem Gin.keep {w0 w1 w2 : World} {b1 b4 : Nat} {v x : Value} (h1 : b1 < w0.heap.size) (h4 : b4 < w0.heap.size) (hb : Below w1.heap.size w1 w2) (h : Gin w0 b1 b4 v x w1) : Gin w0 b1 b4 v x w2 := by
  obtain ⟨a, b, c⟩ := h
  exact ⟨by rw [hb.cell (Nat.lt_of_lt_of_le h1 c.size)]; exact a, by rw [hb.cell (Nat.lt_of_lt_of_le h4 c.size)]; exact b, c.trans (hb.mono c.size)⟩

theorem Gin.set4 {w0 u : World} {b1 b4 : Nat} {v x : Value} (h1 : b1 < w0.heap.size) (h4 : b4 < w0.heap.size) (a b c d : Value) (h : Gin w0 b1 b4 v x u) : Gin w0 b1 b4 v x ((((u.setCell ⟨w0.heap.size, 0, none⟩ a).setCell ⟨w0.heap.size, 1, none⟩ b).setCell ⟨w0.heap.size, 2, none⟩ c).setCell ⟨w0.heap.size, 3, none⟩ d) := by
  obtain ⟨p, q, r⟩ := h
  have n1 : ∀ (m : World) (o : Nat) (y : Value), (m.setCell ⟨w0.heap.size, o, none⟩ y).cell? ⟨b1, 0, none⟩ = m.cell? ⟨b1, 0, none⟩ := fun m o y => World.cell?_setCell_other _ _ _ _ (fun e => by injection e; omega)
  have n4 : ∀ (m : World) (o : Nat) (y : Value), (m.setCell ⟨w0.heap.size, o, none⟩ y).cell? ⟨b4, 0, none⟩ = m.cell? ⟨b4, 0, none⟩ := fun m o y => World.cell?_setCell_other _ _ _ _ (fun e => by injection e; omega)
  exact ⟨by rw [n1, n1, n1, n1]; exact p, by rw [n4, n4, n4, n4]; exact q, (((r.setCell (Nat.le_refl _) _).setCell (Nat.le_refl _) _).setCell (Nat.le_refl _) _).setCell (Nat.le_refl _) _⟩

theorem entry_keep {u : World} {B B' n : Nat} {v vl : Value} {es : List Ent} {l : List Int} (hE : Ents u B v es) (hL : Ints u B' vl l) (hn : es.length ≤ 1048576) (hl : l.length ≤ 1048576) (hr : ∀ e ∈ es, e.runes.length ≤ 1048576) :
    Calls Tryd.prog 45 #[v, vl] u fun e w' => e = .returned (elRes (entOf es l)) ∧ Below u.heap.size u w' ∧ (∀ j, n < u.heap.size → w'.cell? ⟨n, j, none⟩ = u.cell? ⟨n, j, none⟩) ∧ ∀ j, n < u.heap.size → w'.frozen? ⟨n, j, none⟩ = u.frozen? ⟨n, j, none⟩ :=
  (entry_any hE hL hn hl hr).mono fun _ _ h => ⟨h.1, h.2, fun _ hj => h.2.cell hj, fun j hj => h.2.frozen (p := ⟨n, j, none⟩) hj⟩

theorem entOk_split (es : List Ent) (i : Nat) (e : Ent) : entOk es i e = (runesOk e.runes && (decide (atE es e.runes = (i : Int)) && elOk e.el)) := rfl

set_option maxRecDepth 100000 in
set_option maxHeartbeats 2000000 in
theorem good3i_long (w : World) (a : Option Addr) (n c : Nat) (sh : Bool) (lv : Int) (h : 40 < n) : Calls Tryd.prog 22 #[.agg #[.slice a n c, .bool sh, .int .i64 lv]] w fun e w' => e = .returned (.bool false) ∧ Below w.heap.size w w' := by
  have h2 : (40 : Int) < (n : Int) := by omega
  go_enter Tryd.func22, Tryd.ntmps22
  go_wp2
  go_ret
  exact ⟨rfl, (Below.refl _ _).alloc (Nat.le_refl _) _⟩

set_option maxRecDepth 100000 in
set_option maxHeartbeats 2000000 in
theorem good3i_lev (w : World) (a : Option Addr) (n c : Nat) (sh : Bool) (lv : Int) (h : n ≤ 40) (hl : ¬ (1 ≤ lv ∧ lv ≤ 4)) : Calls Tryd.prog 22 #[.agg #[.slice a n c, .bool sh, .int .i64 lv]] w fun e w' => e = .returned (.bool false) ∧ Below w.heap.size w w' := by
  have h2 : ¬ (40 : Int) < (n : Int) := by omega
  by_cases h3 : lv < 1
  · clear hl
    go_enter Tryd.func22, Tryd.ntmps22
    go_wp2
    go_ret
    exact ⟨rfl, (Below.refl _ _).alloc (Nat.le_refl _) _⟩
  · have h4 : 4 < lv := by omega
    clear hl
    go_enter Tryd.func22, Tryd.ntmps22
    go_wp2
    go_ret
    exact ⟨rfl, (Below.refl _ _).alloc (Nat.le_refl _) _⟩

set_option maxRecDepth 100000 in
set_option maxHeartbeats 2000000 in
theorem good3i_nil (w : World) (sh : Bool) (lv : Int) (hl : 1 ≤ lv ∧ lv ≤ 4) : Calls Tryd.prog 22 #[.agg #[.slice none 0 0, .bool sh, .int .i64 lv]] w fun e w' => e = .returned (.bool true) ∧ Below w.heap.size w w' := by
  obtain ⟨h3, h4⟩ := hl
  go_enter Tryd.func22, Tryd.ntmps22
  go_wp2
  go_loop [24] (fun i => i = .int .i64 0) (fun _ => 0)
  case atStart => rfl
  case round =>
    subst hrel
    go_wp2
    go_ret
    exact ⟨rfl, (Below.refl _ _).alloc (Nat.le_refl _) _⟩

/-- The block of an entry that is looked at. -/
def Eb (u : World) (b : Nat) (x : Value) (e : El) : Prop := u.heap[b]? = some (.cells #[x, .int .i64 e.first, .int .i64 e.second, .int .i64 e.third, .bool e.varies] 63)
theorem Eb.facts {u : World} {b : Nat} {x : Value} {e : El} (h : Eb u b x e) : b < u.heap.size ∧ u.cell? ⟨b, 0, none⟩ = some x ∧ u.cell? ⟨b, 1, none⟩ = some (.int .i64 e.first) ∧ u.cell? ⟨b, 2, none⟩ = some (.int .i64 e.second) ∧ u.cell? ⟨b, 3, none⟩ = some (.int .i64 e.third) ∧ u.cell? ⟨b, 4, none⟩ = some (.bool e.varies) :=
  ⟨(Array.getElem?_eq_some_iff.1 h).1, cell_of_row _ _ 0 _ _ _ h, cell_of_row _ _ 1 _ _ _ h, cell_of_row _ _ 2 _ _ _ h, cell_of_row _ _ 3 _ _ _ h, cell_of_row _ _ 4 _ _ _ h⟩
theorem Eb.below {u u' : World} {b : Nat} {x : Value} {e : El} (h : Eb u b x e) (hb : Below u.heap.size u u') : Eb u' b x e := (hb.block _ h.facts.1).trans h

set_option maxRecDepth 100000 in
set_option maxHeartbeats 8000000 in
theorem good3i_row (w : World) (B g cap : Nat) (es : List Ent) (sh : Bool) (lv : Int) (hE : Ents w B (.slice (some ⟨g, 0, none⟩) es.length cap) es) (hn : es.length ≤ 40) (hl : 1 ≤ lv ∧ lv ≤ 4) (hr : ∀ e ∈ es, e.runes.length ≤ 1048576) (ht : Tabs3 w) :
    Calls Tryd.prog 22 #[.agg #[.slice (some ⟨g, 0, none⟩) es.length cap, .bool sh, .int .i64 lv]] w fun e w' => e = .returned (.bool (rulesOk es lv)) ∧ Below w.heap.size w w' := by
  obtain ⟨hl1, hl2⟩ := hl
  have hn2 : ¬ (40 : Int) < (es.length : Int) := by omega
  have HT : Hid (Tabs3 w) := ht
  have hcap : es.length ≤ cap ∧ cap ≤ maxLen := by
    rcases hE.form with ⟨h, _⟩ | ⟨_, _, h, h2, h3, _, _⟩
    · cases h
    · cases h; exact ⟨h2, h3⟩
  unfold maxLen at hcap
  clear ht
  go_enter Tryd.func22, Tryd.ntmps22
  go_wp2
  go_loopw [24] (fun i wr => GRel w (.slice (some ⟨g, 0, none⟩) es.length cap) sh lv es i wr) (fun i _ => es.length - (intOf i).toNat)
  case atStart => exact ⟨0, Nat.zero_le _, rfl, fun i e hi => by omega, ⟨by simp, by simp [World.cell?_alloc_new], by simp [World.cell?_alloc_new], by simp [World.cell?_alloc_new]⟩, (Below.refl _ _).alloc (Nat.le_refl _) _⟩
  case round =>
    obtain ⟨k, hk, rfl, HN0, hbx, hb⟩ := hrel
    have HN : Hid (EntsTo es k) := HN0
    clear HN0
    by_cases hlt : k < es.length
    · obtain ⟨e, he⟩ : ∃ e, es[k]? = some e := ⟨_, List.getElem?_eq_getElem hlt⟩
      obtain ⟨x, hI, a0, a1, a2, a3, a4⟩ := (hE.below hb).cells k e he
      obtain ⟨xa, xn, xc, rfl⟩ : ∃ xa xn xc, x = .slice xa xn xc := by
        rcases hI.form with ⟨rfl, _⟩ | ⟨_, _, rfl, _, _⟩
        · exact ⟨_, _, _, rfl⟩
        · exact ⟨_, _, _, rfl⟩
      have hk8 : (k : Int) < (es.length : Int) := by omega
      have hrl := hr e (List.mem_of_getElem? he)
      have hbr := (Below.refl wr.heap.size wr).alloc (Nat.le_refl _) (.cells #[.slice xa xn xc, .int .i64 e.el.first, .int .i64 e.el.second, .int .i64 e.el.third, .bool e.el.varies] 63)
      have hba := hb.trans (hbr.mono hb.size)
      have hE2 := (hE.below hb).below hbr
      have JN := joined_any hrl (hI.below hbr) ((HT.out.below hb).below hbr)
      have HE : Hid _ := he
      have HI2 : Hid (Ints _ _ _ _) := hI.below hbr
      have HE2 : Hid (Ents _ _ _ _) := hE2
      have HB : Hid (Below _ _ _) := hba
      have HX : Hid (Box3 _ _ _ _ _) := hbx.below hbr
      have HG : Hid (Eb _ _ _ _) := show Eb (wr.alloc _) wr.heap.size (.slice xa xn xc) e.el from heap_alloc_new _ _
      clear he hI hE2 hba hbr hbx hb HT
      go_wp2_with fail
      refine JN.mono ?_
      rintro e' w2 ⟨rfl, b2⟩
      have c2 : Hid (Below _ _ _) := HB.out.trans (b2.mono HB.out.size)
      have g2 : Hid (Eb _ _ _ _) := HG.out.below b2
      have x2 : Hid (Box3 _ _ _ _ _) := HX.out.below b2
      have i2 : Hid (Ints _ _ _ _) := HI2.out.below b2
      have ee2 : Hid (Ents _ _ _ _) := HE2.out.below b2
      clear JN a0 a1 a2 a3 a4 HB HX HG HI2 HE2 b2
      cases r1 : runesOk e.runes
      · have HF : Hid (rulesOk es lv = false) := rulesOk_ent HE.out (by rw [entOk_split, r1, Bool.false_and])
        clear HN HE hE hr
        go_wp2
        go_ret
        rw [HF.out]
        exact ⟨rfl, c2.out⟩
      · obtain ⟨_, d0, d1, d2, d3, d4⟩ := g2.out.facts
        have GE := fun w => goodElem_any e.el w
        go_wp2_with fail
        refine (GE _).mono ?_
        rintro e' w3 ⟨rfl, b3⟩
        have c3 : Hid (Below _ _ _) := c2.out.trans (b3.mono c2.out.size)
        have g3 : Hid (Eb _ _ _ _) := g2.out.below b3
        have x3 : Hid (Box3 _ _ _ _ _) := x2.out.below b3
        have i3 : Hid (Ints _ _ _ _) := i2.out.below b3
        have ee3 : Hid (Ents _ _ _ _) := ee2.out.below b3
        clear GE d0 d1 d2 d3 d4 c2 g2 x2 i2 ee2 b3
        cases r2 : elOk e.el
        · have HF : Hid (rulesOk es lv = false) := rulesOk_ent HE.out (by rw [entOk_split, r2]; simp)
          clear HN HE hE hr
          go_wp2
          go_ret
          rw [HF.out]
          exact ⟨rfl, c3.out⟩
        · have hk9 : (k : Int) ≤ (cap : Int) := by omega
          have hg4 := g3.out.facts.1
          have hg1 := x3.out.1
          have hS : w3.cell? ⟨w.heap.size, 0, none⟩ = some (.slice (some ⟨g, 0, none⟩) es.length cap) ∧ w3.cell? ⟨wr.heap.size, 0, none⟩ = some (.slice xa xn xc) ∧ Below w3.heap.size w3 w3 := ⟨x3.out.2.1, g3.out.facts.2.1, Below.refl _ _⟩
          have hS2 := Gin.keep hg1 hg4 ((Below.refl w3.heap.size w3).drew) hS
          have K := fun (u1 u2 : World) (hb : Below u1.heap.size u1 u2) (hu : u1.cell? ⟨w.heap.size, 0, none⟩ = some (.slice (some ⟨g, 0, none⟩) es.length cap) ∧ u1.cell? ⟨wr.heap.size, 0, none⟩ = some (.slice xa xn xc) ∧ Below w3.heap.size w3 u1) => Gin.keep hg1 hg4 hb hu
          have hS3 := Gin.keep hg1 hg4 (((Below.refl w3.heap.size w3).alloc (Nat.le_refl _) (.cells #[.int .i64 0, .int .i64 0, .int .i64 0, .bool false] 59)).drew) hS
          have K4 := fun (u : World) (a b c d : Value) (hu : u.cell? ⟨w.heap.size, 0, none⟩ = some (.slice (some ⟨g, 0, none⟩) es.length cap) ∧ u.cell? ⟨wr.heap.size, 0, none⟩ = some (.slice xa xn xc) ∧ Below w3.heap.size w3 u) => Gin.set4 hg1 hg4 a b c d hu
          unfold Gin at hS2 hS3 K K4
          have EN := fun (u : World) (hu : u.cell? ⟨w.heap.size, 0, none⟩ = some (.slice (some ⟨g, 0, none⟩) es.length cap) ∧ u.cell? ⟨wr.heap.size, 0, none⟩ = some (.slice xa xn xc) ∧ Below w3.heap.size w3 u) => entry_keep (n := w3.heap.size) ((ee3.out.below hu.2.2).take k hk) (i3.out.below hu.2.2) (by rw [List.length_take]; omega) hrl (fun x hx => hr x (List.mem_of_mem_take hx))
          have HW : Hid (entOf (es.take k) e.runes = none ↔ atE es e.runes = (k : Int)) := atE_here HE.out
          obtain ⟨o, ho⟩ : ∃ o, entOf (es.take k) e.runes = o := ⟨_, rfl⟩
          rw [ho] at EN
          unfold elRes elV at EN
          have HO : Hid (entOf (es.take k) e.runes = o) := ho
          clear ho
          have HXE : Hid (o.isSome = false → EntsTo es (k + 1)) := fun c => HN.out.succ HE.out (by rw [entOk_split, r1, r2, decide_eq_true (HW.out.1 (by rw [HO.out]; simpa using c))]; rfl)
          have HXF : Hid (o.isSome = true → rulesOk es lv = false) := fun c => rulesOk_ent HE.out (by
            have : ¬ atE es e.runes = (k : Int) := fun d => by rw [HW.out.2 d] at HO; have := HO.out; rw [← this] at c; simp at c
            rw [entOk_split, decide_eq_false this]; simp)
          clear HW HO HE HN r1 r2 ee3 i3
          generalize elOf o = x0 at *
          generalize o.isSome = ob at *
          go_wp2_with fail
          go_region_held3 (fun u => u.cell? ⟨w.heap.size, 0, none⟩ = some (.slice (some ⟨g, 0, none⟩) es.length cap) ∧ u.cell? ⟨wr.heap.size, 0, none⟩ = some (.slice xa xn xc) ∧ Below w3.heap.size w3 u)
            (first
              | with_reducible exact hS2
              | with_reducible exact hS3
              | with_reducible exact K _ _ (by assumption) (by assumption)
              | (with_reducible refine K4 _ _ _ _ _ ?_; first | assumption | exact K _ _ (by assumption) (by assumption))
              | (with_reducible refine K _ _ ((Below.refl _ _).alloc (Nat.le_refl _) _) ?_; first | assumption | exact hS2 | exact K _ _ (by assumption) (by assumption)))
            ((go_at_call 45; refine (EN _ (by assumption)).mono ?_; rintro e' w' ⟨rfl, hbw, hcw, hfw⟩))
          all_goals
            clear hS hS2 hS3 K K4 EN
            obtain ⟨_, _, hE9⟩ := (show _ ∧ _ ∧ Below w3.heap.size w3 _ by assumption)
            have x4 : Hid (Box3 _ _ _ _ _) := x3.out.below hE9
            have c4 : Hid (Below _ _ _) := c3.out.trans (hE9.mono c3.out.size)
            cases ob
            · have HN2 : Hid (EntsTo es (k + 1)) := HXE.out rfl
              clear HXE HXF hE9 hr hE
              go_wp2
              exact ⟨⟨k + 1, by omega, by go_num, HN2.out, x4.out, c4.out⟩, by simp [intOf]; omega⟩
            · have HF : Hid (rulesOk es lv = false) := HXF.out rfl
              clear HXE HXF hE9 hr hE
              go_wp2
              go_ret
              rw [HF.out]
              exact ⟨rfl, c4.out⟩
    · have HA : Hid (rulesOk es lv = true) := rulesOk_all HN.out (by omega) hn ⟨hl1, hl2⟩
      clear HN hE hr
      go_wp2
      go_ret
      rw [HA.out]
      exact ⟨rfl, hb⟩

theorem implGood3_any {w : World} {B : Nat} {v : Value} {es : List Ent} {sh : Bool} {lv : Int} (hE : Ents w B v es) (hr : ∀ e ∈ es, e.runes.length ≤ 1048576) (ht : Tabs3 w) :
    Calls Tryd.prog 22 #[.agg #[v, .bool sh, .int .i64 lv]] w fun e w' => e = .returned (.bool (rulesOk es lv)) ∧ Below w.heap.size w w' := by
  obtain ⟨a, c, rfl⟩ : ∃ a c, v = .slice a es.length c := by
    rcases hE.form with ⟨rfl, rfl⟩ | ⟨g, cap, rfl, _, _, _, _⟩
    · exact ⟨_, _, rfl⟩
    · exact ⟨_, _, rfl⟩
  by_cases h1 : es.length ≤ 40
  · by_cases h2 : 1 ≤ lv ∧ lv ≤ 4
    · rcases hE.form with ⟨h, rfl⟩ | ⟨g, cap, h, _, _, _, _⟩
      · rw [h]
        have e0 : rulesOk [] lv = true := decide_eq_true ⟨by simp, h2, rfl⟩
        rw [e0]
        exact good3i_nil w sh lv h2
      · rw [h] at hE ⊢
        exact good3i_row w B g cap es sh lv hE h1 h2 hr ht
    · rw [rulesOk_head (fun h => h2 h.2)]
      exact good3i_lev w a es.length c sh lv h1 h2
  · rw [rulesOk_head (fun h => h1 h.1)]
    exact good3i_long w a es.length c sh lv (by omega)
end Go.Proofs.YtdnelneamnmcnaeDoor
